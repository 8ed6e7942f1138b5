package knot_test

import (
	"math/rand/v2"
	"slices"
	"testing"

	"hoarstone/api"
	"hoarstone/knot"
)

// digests returns so many of them, none of which comes twice.
func digests(n int) []api.Sum {
	var l []api.Sum
	for i := range n {
		l = append(l, x(byte(i)))
	}
	return l
}

// chain returns so many known terms, each of which calls the next one, and the last one the first one if it is a circle.
func chain(n int, circle bool) []api.KnownTerm {
	var l []api.Term
	for i := range n {
		if i == n-1 && !circle {
			l = append(l, nat(0))
		} else {
			l = append(l, app(def(x(byte((i+1)%n))), nat(i)))
		}
	}
	return knows(digests(n), l)
}

// P6.5: the group of a digest.
func TestClose(t *testing.T) {
	a, b, c, d, far := x(3), x(1), x(2), x(4), x(77)
	pair := knows([]api.Sum{a, b, c, d}, group(
		lam(match(def(b), on(pcon(b, 0, pany()), def(a)), on(pany(), def(c)))),
		plus(def(far), plus(def(c), def(a))),
		con(a, 1, do(a, 2, nat(1)), handle(b, nat(1), nat(2))),
		app(def(a), def(d)),
	))
	for i, y := range []struct {
		l    []api.KnownTerm
		root api.Sum
		want []api.Term
	}{
		{knows([]api.Sum{a}, group(nat(1))), a, group(nat(1))}, {knows([]api.Sum{a}, group(def(a))), a, group(self(0))}, {knows([]api.Sum{a}, group(def(b))), a, group(def(b))}, {knows([]api.Sum{{}}, group(app(def(api.Sum{}), nat(1)))), api.Sum{}, group(app(self(0), nat(1)))},
		{pair, a, group(lam(match(self(1), on(pcon(b, 0, pany()), self(0)), on(pany(), def(c)))), plus(def(far), plus(def(c), self(0))))},
		{pair, b, group(plus(def(far), plus(def(c), self(1))), lam(match(self(0), on(pcon(b, 0, pany()), self(1)), on(pany(), def(c)))))},
		// Refs of others than Defs are no calls.
		{pair, c, group(con(a, 1, do(a, 2, nat(1)), handle(b, nat(1), nat(2))))}, {pair, d, group(app(def(a), self(0)))},
		// Numbers come by the nodes of the members, from root on, not by the order in which they are known.
		{knows([]api.Sum{a, b, c, d}, group(nat(0), plus(def(d), def(c)), lam(def(b)), lam(lam(def(b))))), b, group(plus(self(1), self(2)), lam(lam(self(0))), lam(self(0)))},
		{knows([]api.Sum{a, b, c, d}, group(nat(0), plus(def(d), def(c)), lam(def(b)), lam(lam(def(b))))), c, group(lam(self(1)), plus(self(2), self(0)), lam(lam(self(1))))},
		{knows([]api.Sum{a, b, c, d}, group(nat(0), plus(def(d), def(c)), lam(def(b)), lam(lam(def(b))))), a, group(nat(0))},
		// Members that are alike are kept apart.
		{knows([]api.Sum{a, b}, group(lam(app(def(b), v(0))), lam(app(def(a), v(0))))), a, group(lam(app(self(1), v(0))), lam(app(self(0), v(0))))},
		// Whoever is reached, but does not reach root, is no member, nor one that reaches root, but is not reached.
		{chain(40, false), x(5), group(app(def(x(6)), nat(5)))}, {append(chain(8, true), knows([]api.Sum{x(50)}, group(def(x(3))))...), x(50), group(def(x(3)))},
		{append(chain(8, true), knows([]api.Sum{x(50)}, group(def(x(3))))...), x(6), group(app(self(1), nat(6)), app(self(2), nat(7)), app(self(3), nat(0)), app(self(4), nat(1)), app(self(5), nat(2)), app(self(6), nat(3)), app(self(7), nat(4)), app(self(0), nat(5)))},
	} {
		got, e := knot.Close(y.l, y.root)
		if e != api.OK || !same(got, y.want) {
			t.Errorf("%d: %s, %v, want %s", i, told(got), e, told(y.want))
		}
	}
}

// P6.5: what is wrong with known terms, in order.
func TestCloseErrors(t *testing.T) {
	bad := api.Term{}
	many := func(n int, u api.Term) []api.KnownTerm { return knows(digests(n), times(n, u)) }
	two := func(first, second api.Term) []api.KnownTerm {
		return knows([]api.Sum{x(1), x(2)}, group(first, second))
	}
	doubled := func(first, second api.Term) []api.KnownTerm {
		return knows([]api.Sum{x(1), x(1)}, group(first, second))
	}
	for i, y := range []struct {
		l      []api.KnownTerm
		root   api.Sum
		close  api.Errno
		verify api.Errno // if no digest is a right one
	}{
		{nil, x(1), api.ErrNone, api.OK}, {many(40, nat(0)), x(1), api.OK, api.ErrWrong}, {many(41, nat(0)), x(1), api.ErrMany, api.ErrMany}, {many(41, bad), x(1), api.ErrMany, api.ErrMany}, {knows(times(41, x(1)), times(41, nat(0))), x(9), api.ErrMany, api.ErrMany},
		// Terms: closed, and without members; the first one decides.
		{many(40, bad), x(1), api.ErrRange, api.ErrRange}, {two(v(0), nat(0)), x(2), api.ErrNot, api.ErrNot}, {two(nat(0), lam(v(1))), x(1), api.ErrNot, api.ErrNot}, {two(self(0), nat(0)), x(1), api.ErrNot, api.ErrNot}, {two(nat(0), lam(self(0))), x(1), api.ErrNot, api.ErrNot}, {two(bad, v(0)), x(1), api.ErrRange, api.ErrRange}, {two(v(0), bad), x(1), api.ErrNot, api.ErrNot}, {two(nat(-1), lams(60, nat(0))), x(1), api.ErrRange, api.ErrRange}, {two(lams(59, nat(0)), lams(60, nat(0))), x(1), api.ErrLong, api.ErrLong},
		// Before digests that come twice; these before one that is not there; that before too many members.
		{doubled(nat(0), nat(0)), x(1), api.ErrTwice, api.ErrTwice}, {doubled(nat(0), nat(1)), x(9), api.ErrTwice, api.ErrTwice}, {doubled(nat(0), v(0)), x(1), api.ErrNot, api.ErrNot}, {doubled(self(0), nat(0)), x(9), api.ErrNot, api.ErrNot}, {doubled(bad, bad), x(1), api.ErrRange, api.ErrRange},
		{append(chain(9, true), chain(9, true)...), x(0), api.ErrTwice, api.ErrTwice}, {append(many(39, nat(1)), knows([]api.Sum{x(38)}, group(nat(2)))...), x(1), api.ErrTwice, api.ErrTwice},
		{two(nat(0), nat(1)), x(3), api.ErrNone, api.ErrWrong}, {two(def(x(3)), nat(1)), x(3), api.ErrNone, api.ErrWrong}, {two(nat(0), nat(1)), api.Sum{}, api.ErrNone, api.ErrWrong}, {chain(9, true), x(9), api.ErrNone, api.ErrMany},
		{chain(8, true), x(0), api.OK, api.ErrWrong}, {chain(9, true), x(0), api.ErrMany, api.ErrMany}, {chain(9, true), x(8), api.ErrMany, api.ErrMany}, {chain(40, true), x(7), api.ErrMany, api.ErrMany}, {chain(40, false), x(0), api.OK, api.ErrWrong},
	} {
		got, e := knot.Close(y.l, y.root)
		if e != y.close || e != api.OK && len(got) > 0 {
			t.Errorf("%d: Close: %v, want %v", i, e, y.close)
		}
		if e := knot.Verify(y.l); e != y.verify {
			t.Errorf("%d: Verify: %v, want %v", i, e, y.verify)
		}
	}
	for _, u := range round() {
		got, e := knot.Close(two(nat(0), u), x(1))
		is(t, "round", got, nil, e, api.ErrLong)
		wants(t, "round", knot.Verify(two(nat(0), u)), api.ErrLong)
	}
}

// unknown returns known terms that call each other in any way, by digests that they do not have, and others that nobody has.
func unknown(r *rand.Rand) []api.KnownTerm {
	n := 1 + r.IntN(12)
	if r.IntN(20) == 0 {
		n = knot.MaxKnown
	}
	sums := digests(n)
	r.Shuffle(n, func(i, j int) { sums[i], sums[j] = sums[j], sums[i] })
	var l []api.Term
	rare := 1 + r.IntN(3)
	for range n {
		// What would be a Self calls one of those that are known, or, if calls are to be rare, mostly nobody.
		l = append(l, replaced(some(r, 1, 1+r.IntN(16)), func(u api.Term) api.Term {
			if r.IntN(rare) > 0 {
				return nat(1)
			}
			return def(x(byte(r.IntN(n + 2))))
		}))
	}
	return knows(sums, l)
}

// P6.5: groups of made known terms.
func TestCloses(t *testing.T) {
	r := seeded(12)
	sizes := map[int]int{}
	for range 400 {
		l := unknown(r)
		for _, k := range l {
			want, wantE := plainClose(l, k.Sum), api.OK
			sizes[len(want)]++
			if len(want) > api.MaxGroup {
				want, wantE = nil, api.ErrMany
			}
			got, e := knot.Close(l, k.Sum)
			is(t, "Close", got, want, e, wantE)
			if e == api.OK {
				wants(t, "closed", knot.Check(got), api.OK)
			}
		}
		wants(t, "Verify", knot.Verify(l), plainVerify(l))
	}
	for _, n := range []int{1, 2, 3, 7, 8, 9} {
		if sizes[n] == 0 {
			t.Error("no group of", n)
		}
	}
}

// P6.5: Verify tells whether all digests are right, of members, whatever else is known.
func TestVerify(t *testing.T) {
	r := seeded(13)
	for _, l := range groups(14, 400) {
		known := once(knows(sums(t, l), opened(t, l)))
		r.Shuffle(len(known), func(i, j int) { known[i], known[j] = known[j], known[i] })
		wants(t, "Verify of "+told(l), knot.Verify(known), api.OK)
		at := r.IntN(len(known))
		// A digest that differs in one bit: nobody has it.
		wrong := slices.Clone(known)
		wrong[at].Sum[r.IntN(32)] ^= 1 << r.IntN(8)
		wants(t, "wrong digest", knot.Verify(wrong), api.ErrWrong)
		// Another term under the digest.
		wrong = slices.Clone(known)
		wrong[at].Body = app(wrong[at].Body, nat(77))
		if knot.Check(group(wrong[at].Body)) == api.OK {
			wants(t, "wrong term", knot.Verify(wrong), api.ErrWrong)
		}
		// Two terms that have each other's digests.
		if other := r.IntN(len(known)); other != at {
			wrong = slices.Clone(known)
			wrong[at].Sum, wrong[other].Sum = wrong[other].Sum, wrong[at].Sum
			wants(t, "turned", knot.Verify(wrong), api.ErrWrong)
		}
		wants(t, "none", knot.Verify(nil), api.OK)
	}
	two := opened(t, group(even(1), odd(0)))
	s := sums(t, group(even(1), odd(0)))
	wants(t, "both", knot.Verify(knows(s, two)), api.OK)
	// Without the other one it is a term that calls something unknown, and has another digest.
	wants(t, "one", knot.Verify(knows(s, two[:1])), api.ErrWrong)
}

// P6.5: term by term: too many members, a code that is too long, a wrong digest.
func TestVerifyErrors(t *testing.T) {
	right := knows(sums(t, group(nat(5))), group(nat(5)))
	wrong := knows([]api.Sum{x(60)}, group(nat(5)))
	many := chain(9, true)
	var long []api.KnownTerm
	for i, u := range heavy(api.MaxBytes + 1) {
		long = append(long, api.KnownTerm{Sum: x(byte(70 + i)), Body: replaced(u, func(u api.Term) api.Term {
			if u.Kind == api.Self {
				return def(x(byte(70 + u.Num)))
			}
			return u
		})})
	}
	most := heavy(api.MaxBytes)
	for i, y := range []struct {
		l    []api.KnownTerm
		want api.Errno
	}{
		{right, api.OK}, {wrong, api.ErrWrong}, {many, api.ErrMany}, {long, api.ErrLong}, {knows(sums(t, most), opened(t, most)), api.OK},
		{slices.Concat(right, wrong, many, long), api.ErrWrong}, {slices.Concat(right, wrong, long, many), api.ErrWrong}, {slices.Concat(right, many, wrong, long), api.ErrMany}, {slices.Concat(right, many, long, wrong), api.ErrMany}, {slices.Concat(right, long, wrong, many), api.ErrLong}, {slices.Concat(long, right, many, wrong), api.ErrLong},
		// What is wrong with the terms themselves comes before all that.
		{slices.Concat(wrong, many, long, right, wrong), api.ErrTwice}, {slices.Concat(wrong, many, long, knows([]api.Sum{x(90)}, group(v(0)))), api.ErrNot}, {slices.Concat(wrong, chain(40, false)), api.ErrMany},
	} {
		if e := knot.Verify(y.l); e != y.want {
			t.Errorf("%d: %v, want %v", i, e, y.want)
		}
	}
}
