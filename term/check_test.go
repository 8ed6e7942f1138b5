package term_test

import (
	"math"
	"slices"
	"testing"

	"hoarstone/api"
	"hoarstone/term"
)

// checked tells a test if a term's error is another one than it should be, with the depth and the members that a right term has.
func checked(t *testing.T, what string, x api.Term, want api.Errno) {
	t.Helper()
	if e := term.Check(x, term.MaxOpen, api.MaxGroup); e != want {
		t.Errorf("%s: %s: got %v, want %v", what, shown(x), e, want)
	}
}

// P4.1: what each kind may have, and one beyond.
func TestCheckTerms(t *testing.T) {
	for _, u := range zoo() {
		checked(t, "right", u, api.OK)
	}
	r, n := x(1), nat(0)
	for i, y := range []struct {
		t    api.Term
		want api.Errno
	}{
		{api.Term{}, api.ErrRange}, {api.Term{Kind: -1}, api.ErrRange}, {api.Term{Kind: 13}, api.ErrRange}, {api.Term{Kind: 20}, api.ErrRange}, {api.Term{Kind: 31}, api.ErrRange},
		{v(-1), api.ErrNot}, {v(60), api.ErrNot}, {v(math.MinInt), api.ErrNot}, {v(math.MaxInt), api.ErrNot},
		{nat(-1), api.ErrRange}, {nat(1<<30 + 1), api.ErrRange}, {nat(1 << 30), api.OK},
		{self(8), api.ErrNot}, {self(-1), api.ErrNot}, {self(math.MaxInt), api.ErrNot}, {self(math.MinInt), api.ErrNot},
		{api.Term{Kind: api.Lam}, api.ErrMany}, {api.Term{Kind: api.Lam, Kids: times(2, n)}, api.ErrMany},
		{api.Term{Kind: api.App, Kids: times(1, n)}, api.ErrMany}, {api.Term{Kind: api.App, Kids: times(3, n)}, api.ErrMany}, {api.Term{Kind: api.App}, api.ErrMany},
		{api.Term{Kind: api.Let, Kids: times(1, n)}, api.ErrMany}, {api.Term{Kind: api.Let, Kids: times(3, n)}, api.ErrMany},
		{api.Term{Kind: api.Var, Kids: times(1, n)}, api.ErrMany}, {api.Term{Kind: api.Nat, Kids: times(1, n)}, api.ErrMany},
		{api.Term{Kind: api.Def, Kids: times(1, n)}, api.ErrMany}, {api.Term{Kind: api.Self, Kids: times(1, n)}, api.ErrMany},
		{con(r, 0, times(4, n)...), api.OK}, {con(r, 0, times(5, n)...), api.ErrMany}, {con(r, -1), api.ErrRange}, {con(r, 7), api.OK}, {con(r, 8), api.ErrRange},
		{match(n), api.OK}, {match(n, times(8, on(pany(), n))...), api.OK}, {match(n, times(9, on(pany(), n))...), api.ErrMany},
		{api.Term{Kind: api.Match}, api.ErrMany}, {api.Term{Kind: api.Match, Kids: times(2, n)}, api.ErrMany},
		{prim(0, n, n), api.ErrRange}, {prim(1, n, n), api.OK}, {prim(5, n, n), api.OK}, {prim(6, n, n), api.ErrRange}, {prim(-1, n, n), api.ErrRange},
		{api.Term{Kind: api.Prim, Num: 1, Kids: times(1, n)}, api.ErrMany}, {api.Term{Kind: api.Prim, Num: 1, Kids: times(3, n)}, api.ErrMany},
		{do(r, 7, n), api.OK}, {do(r, 8, n), api.ErrRange}, {do(r, -1, n), api.ErrRange}, {api.Term{Kind: api.Do}, api.ErrMany}, {api.Term{Kind: api.Do, Kids: times(2, n)}, api.ErrMany},
		{handle(r), api.ErrMany}, {handle(r, n), api.ErrMany}, {handle(r, n, v(0)), api.OK}, {handle(r, times(10, n)...), api.OK}, {handle(r, times(11, n)...), api.ErrMany},
		{def(api.Sum{}), api.OK}, {con(api.Sum{}, 0), api.OK},
	} {
		if e := term.Check(y.t, term.MaxOpen, api.MaxGroup); e != y.want {
			t.Errorf("%d: %s: got %v, want %v", i, shown(y.t), e, y.want)
		}
	}
}

// P4.1: patterns likewise; Binds has the same errors.
func TestCheckPatterns(t *testing.T) {
	r := x(1)
	for i, y := range []struct {
		p     api.Pattern
		binds int
		want  api.Errno
	}{
		{pany(), 1, api.OK}, {pnat(0), 0, api.OK}, {pnat(1 << 30), 0, api.OK}, {pcon(r, 7), 0, api.OK}, {pcon(api.Sum{}, 0), 0, api.OK},
		{pcon(r, 0, pany(), pcon(r, 1, pany(), pnat(1), pany()), pnat(2), pany()), 4, api.OK},
		{api.Pattern{}, 0, api.ErrRange}, {api.Pattern{Kind: -1}, 0, api.ErrRange}, {api.Pattern{Kind: 4}, 0, api.ErrRange}, {api.Pattern{Kind: 33}, 0, api.ErrRange},
		{api.Pattern{Kind: api.PAny, Num: 1}, 0, api.ErrClash}, {api.Pattern{Kind: api.PAny, Ref: r}, 0, api.ErrClash}, {api.Pattern{Kind: api.PAny, Kids: times(1, pany())}, 0, api.ErrMany},
		{api.Pattern{Kind: api.PNat, Ref: r}, 0, api.ErrClash}, {api.Pattern{Kind: api.PNat, Kids: times(1, pany())}, 0, api.ErrMany}, {pnat(-1), 0, api.ErrRange}, {pnat(1<<30 + 1), 0, api.ErrRange},
		{pcon(r, -1), 0, api.ErrRange}, {pcon(r, 8), 0, api.ErrRange}, {pcon(r, 0, times(4, pany())...), 4, api.OK}, {pcon(r, 0, times(5, pany())...), 0, api.ErrMany},
		{pcon(r, 8, times(5, pany())...), 0, api.ErrMany}, {api.Pattern{Kind: api.PAny, Num: 1, Kids: times(1, pany())}, 0, api.ErrClash},
		{pcon(r, 0, pany(), pnat(-1), api.Pattern{}), 0, api.ErrRange}, {pcon(r, 0, pany(), api.Pattern{Kind: api.PAny, Num: 1}, api.Pattern{}), 0, api.ErrClash},
		// The Match around it has three nodes more, and is one deeper.
		{deepPattern(59), 0, api.OK}, {deepPattern(60), 0, api.ErrLong},
	} {
		binds, e := term.Binds(y.p)
		if binds != y.binds || e != y.want {
			t.Errorf("%d: Binds: got %d, %v, want %d, %v", i, binds, e, y.binds, y.want)
		}
		checked(t, "pattern", match(nat(0), on(y.p, nat(0))), y.want)
	}
	full := func(n int) api.Pattern {
		p := pany()
		for len(patternNodes(p, 1)) < n {
			p = pcon(r, 0, append([]api.Pattern{p}, times(min(3, n-1-len(patternNodes(p, 1))), pany())...)...)
		}
		return p
	}
	// As many levels as these have are few enough only if the nodes are not one in the other.
	for _, n := range []int{200, 229} {
		p := full(n)
		if binds, e := term.Binds(p); binds != bindings(p) || e != api.OK {
			t.Error(n, binds, e)
		}
	}
	wide := pcon(r, 0, full(74), full(74), full(74), full(74))
	if binds, e := term.Binds(wide); len(patternNodes(wide, 1)) != 297 || binds != bindings(wide) || e != api.OK {
		t.Error(len(patternNodes(wide, 1)), binds, e)
	}
	wide.Kids[3] = full(75)
	if binds, e := term.Binds(wide); binds != 0 || e != api.ErrLong {
		t.Error(binds, e)
	}
}

// P4.1: a field that a kind does not have.
func TestCheckFields(t *testing.T) {
	has := map[int]string{api.Var: "n", api.Nat: "n", api.Self: "n", api.Con: "nr", api.Prim: "n", api.Do: "nr", api.Def: "r", api.Handle: "r", api.Match: "c"}
	for _, u := range zoo() {
		for field, with := range map[string]api.Term{
			"n": {Kind: u.Kind, Num: 1, Ref: u.Ref, Kids: u.Kids, Cases: u.Cases},
			"r": {Kind: u.Kind, Num: u.Num, Ref: api.Sum{31: 1}, Kids: u.Kids, Cases: u.Cases},
			"c": {Kind: u.Kind, Num: u.Num, Ref: u.Ref, Kids: u.Kids, Cases: []api.Case{on(pany(), nat(0))}},
		} {
			want := api.ErrClash
			for _, f := range has[u.Kind] {
				if string(f) == field {
					want = api.OK
				}
			}
			checked(t, "with "+field, with, want)
		}
		// A list that is empty is zero.
		u.Cases = append([]api.Case{}, u.Cases...)
		u.Kids = append([]api.Term{}, u.Kids...)
		checked(t, "empty", u, api.OK)
	}
}

// P4.1: variables are counted from what is bound around them, members are those that there are.
func TestCheckOpen(t *testing.T) {
	r := x(1)
	two := pcon(r, 0, pany(), pnat(1), pcon(r, 1, pany()))
	for i, y := range []struct {
		t    func(n int) api.Term
		most int // the greatest Num that is bound in the term, and one more
	}{
		{v, 0},
		{func(n int) api.Term { return lam(v(n)) }, 1},
		{func(n int) api.Term { return lam(lam(v(n))) }, 2},
		{func(n int) api.Term { return app(lam(v(0)), v(n)) }, 0},
		{func(n int) api.Term { return let(v(n), v(0)) }, 0},
		{func(n int) api.Term { return let(nat(0), v(n)) }, 1},
		{func(n int) api.Term { return match(v(n), on(two, v(0))) }, 0},
		{func(n int) api.Term { return match(nat(0), on(pany(), nat(0)), on(two, v(n))) }, 2},
		{func(n int) api.Term { return match(nat(0), on(two, nat(0)), on(pnat(1), v(n))) }, 0},
		{func(n int) api.Term { return handle(r, v(n), v(0), v(1)) }, 0},
		{func(n int) api.Term { return handle(r, nat(0), v(n), v(1)) }, 1},
		{func(n int) api.Term { return handle(r, nat(0), nat(0), v(n)) }, 2},
		{func(n int) api.Term { return handle(r, nat(0), nat(0), nat(0), v(n), nat(0)) }, 2},
		{func(n int) api.Term { return con(r, 0, prim(1, do(r, 0, v(n)), nat(0))) }, 0},
		{func(n int) api.Term { return lam(let(nat(0), match(nat(0), on(two, handle(r, nat(0), nat(0), v(n)))))) }, 6},
	} {
		for _, depth := range []int{math.MinInt, -5, -1, 0, 1, 2, 7, 60, 61, 1000, math.MaxInt} {
			nums := []int{math.MinInt, math.MinInt + 3, -2, -1, y.most - 1, y.most, y.most + 1, math.MaxInt - 7, math.MaxInt}
			if depth > math.MinInt+10 && depth < math.MaxInt-10 {
				nums = append(nums, y.most+depth-1, y.most+depth, y.most+depth+1)
			}
			for _, n := range nums {
				want := api.ErrNot
				if n >= 0 && (n < y.most || n-y.most < depth) {
					want = api.OK
				}
				if e := term.Check(y.t(n), depth, 0); e != want {
					t.Errorf("%d: Num %d, depth %d: got %v, want %v", i, n, depth, e, want)
				}
			}
		}
	}
	for _, members := range []int{math.MinInt, -1, 0, 1, 8, 100, math.MaxInt} {
		for _, n := range []int{math.MinInt, -1, 0, 1, 7, 8, 99, 100, math.MaxInt} {
			want := api.ErrNot
			if n >= 0 && n < members {
				want = api.OK
			}
			if e := term.Check(lam(self(n)), 0, members); e != want {
				t.Errorf("Self %d of %d: got %v, want %v", n, members, e, want)
			}
		}
	}
}

// P4.1: of several errors of one node the first one in order, and of several nodes the first one that has any.
func TestCheckOrder(t *testing.T) {
	r, bad := x(1), api.Term{}
	clash, many, range2, not := api.Term{Kind: api.Lam, Num: 1}, api.Term{Kind: api.App}, nat(-1), v(-1)
	for i, y := range []struct {
		t    api.Term
		want api.Errno
	}{
		{api.Term{Kind: 13, Num: 1, Ref: r, Kids: times(9, bad), Cases: times(9, on(pany(), bad))}, api.ErrRange},
		{api.Term{Kind: api.Lam, Num: 1, Kids: times(2, bad)}, api.ErrClash}, {api.Term{Kind: api.Nat, Num: -1, Ref: r}, api.ErrClash}, {api.Term{Kind: api.Var, Num: -1, Ref: r}, api.ErrClash},
		{api.Term{Kind: api.Con, Num: 9, Kids: times(5, bad)}, api.ErrMany}, {api.Term{Kind: api.Nat, Num: -1, Kids: times(1, bad)}, api.ErrMany}, {api.Term{Kind: api.Var, Num: -1, Kids: times(1, bad)}, api.ErrMany},
		{api.Term{Kind: api.Self, Num: 8, Kids: times(1, bad)}, api.ErrMany}, {api.Term{Kind: api.Match, Kids: times(1, bad), Cases: times(9, on(api.Pattern{}, bad))}, api.ErrMany},
		{api.Term{Kind: api.Prim, Num: 6, Kids: times(1, bad)}, api.ErrMany}, {api.Term{Kind: api.Prim, Kids: times(2, clash)}, api.ErrRange}, {do(r, 8, clash), api.ErrRange},
		{app(clash, bad), api.ErrClash}, {app(many, clash), api.ErrMany}, {app(app(nat(0), not), range2), api.ErrNot}, {app(lam(range2), not), api.ErrRange}, {let(nat(0), clash), api.ErrClash},
		// A term comes before its patterns, all these before its Kid, this before the Bodies.
		{match(not, on(pany(), many), on(pnat(-1), clash)), api.ErrRange},
		{match(not, on(pany(), many), on(pany(), clash)), api.ErrNot},
		{match(nat(0), on(pany(), many), on(pany(), clash)), api.ErrMany},
		{match(nat(0), on(pcon(r, 0, pany(), api.Pattern{Kind: api.PAny, Num: 1}), many), on(api.Pattern{}, clash)), api.ErrClash},
		{match(nat(0), on(pcon(r, 9, api.Pattern{}), many)), api.ErrRange},
		{match(nat(0), on(pcon(r, 9, api.Pattern{Kind: api.PAny, Num: 1}), many)), api.ErrRange},
		{match(match(nat(0), on(pany(), clash)), on(pany(), many)), api.ErrClash},
		{match(nat(0), on(pany(), match(nat(0), on(pnat(-1), nat(0)))), on(pany(), clash)), api.ErrRange},
		{handle(r, nat(0), v(61), clash), api.ErrNot}, {con(r, 0, nat(0), match(nat(0), on(pany(), not)), clash), api.ErrNot},
	} {
		if e := term.Check(y.t, term.MaxOpen, api.MaxGroup); e != y.want {
			t.Errorf("%d: %s: got %v, want %v", i, shown(y.t), e, y.want)
		}
	}
}

// P4.1: as many nodes, and as deep, as there may be, and one more; this is asked before all else.
func TestCheckLong(t *testing.T) {
	r := x(1)
	for _, n := range []int{1, 2, 5, 6, 299, 300, 301, 1000} {
		want, size := api.OK, n
		if n > 300 {
			want, size = api.ErrLong, 0
		}
		checked(t, "sized", sized(n), want)
		if got, e := term.Size(sized(n)); got != size || e != want {
			t.Error(n, got, e)
		}
	}
	long := []api.Term{
		lams(60, nat(0)), lams(59, match(nat(0))), lams(59, match(nat(0), on(pany(), nat(0)))), lams(58, match(nat(0), on(pcon(r, 0, pany()), nat(0)))),
		match(nat(0), on(deepPattern(60), nat(0))), match(nat(0), on(pany(), lams(59, nat(0)))), match(lams(59, nat(0))), app(nat(0), lams(59, nat(0))),
		api.Term{Kind: 13, Kids: times(300, nat(0))}, con(r, 0, append(times(300, nat(0)), api.Term{})...), match(nat(0), times(150, on(pany(), nat(0)))...),
		api.Term{Kind: api.Nat, Num: -1, Kids: times(1, lams(59, nat(0)))}, match(lams(58, nat(0)), times(121, on(pany(), nat(0)))...),
	}
	for i, u := range long {
		checked(t, "long", u, api.ErrLong)
		if n, e := term.Size(u); n != 0 || e != api.ErrLong {
			t.Error(i, n, e)
		}
	}
	for _, u := range []api.Term{
		lams(59, nat(0)), lams(58, match(nat(0), on(pany(), nat(0)))), lams(57, match(nat(0), on(pcon(r, 0, pany()), nat(0)))),
		match(nat(0), on(deepPattern(59), nat(0))), match(nat(0), on(pany(), lams(58, nat(0)))), match(lams(58, nat(0))),
	} {
		checked(t, "just short enough", u, api.OK)
	}
	// 300 nodes, with patterns among them: 1 and 59, 8 patterns of 1, 8 Bodies of 29.
	full := match(lams(58, nat(0)), times(8, on(pany(), lams(28, nat(0))))...)
	if n, e := term.Size(full); n != 300 || e != api.OK {
		t.Error(n, e)
	}
	full.Cases[7].Pat = pcon(r, 0, pany())
	if n, e := term.Size(full); n != 0 || e != api.ErrLong {
		t.Error(n, e)
	}
	// Too many nodes come before what is wrong in them, too few do not.
	checked(t, "wrong and 300", api.Term{Kind: 13, Kids: times(299, api.Term{})}, api.ErrRange)
	for _, u := range round() {
		checked(t, "round", u, api.ErrLong)
	}
}

// P4.1: Check is what the chapter says, whatever is spoiled in a term; so are Size, and the errors of the others.
func TestCheckSpoiled(t *testing.T) {
	r := seeded(1)
	met := map[api.Errno]int{}
	for range 10000 {
		u := some(r, r.IntN(4), 1+r.IntN(40))
		for range r.IntN(3) {
			spoil(r, &u)
		}
		depth, members := r.IntN(4), r.IntN(9)
		want := plainCheck(u, depth, members)
		met[want]++
		if e := term.Check(u, depth, members); e != want {
			t.Errorf("%s, %d, %d: got %v, want %v", shown(u), depth, members, e, want)
		}
		n, e := term.Size(u)
		if want := plainCheck(u, 60, 8); e != want || e == api.OK && n != len(nodes(u, 0, 1)) || e != api.OK && n != 0 {
			t.Errorf("%s: %d, %v", shown(u), n, e)
		}
	}
	for _, e := range []api.Errno{api.OK, api.ErrRange, api.ErrClash, api.ErrMany, api.ErrNot} {
		if met[e] < 100 {
			t.Error(e, met[e])
		}
	}
}

// spoil changes something in a term, or in a part of it.
func spoil(r interface{ IntN(int) int }, u *api.Term) {
	if len(u.Kids) > 0 && r.IntN(3) > 0 {
		spoil(r, &u.Kids[r.IntN(len(u.Kids))])
		return
	}
	if len(u.Cases) > 0 && r.IntN(3) > 0 {
		c := &u.Cases[r.IntN(len(u.Cases))]
		if r.IntN(2) == 0 {
			spoil(r, &c.Body)
		} else {
			spoilPattern(r, &c.Pat)
		}
		return
	}
	switch r.IntN(6) {
	case 0:
		u.Num += r.IntN(20) - 10
	case 1:
		u.Kind = r.IntN(14)
	case 2:
		u.Ref = x(byte(r.IntN(2)))
	case 3:
		u.Kids = append(u.Kids, times(1+r.IntN(4), nat(r.IntN(2)-1))...)
	case 4:
		u.Kids = u.Kids[:len(u.Kids)/2]
	case 5:
		u.Cases = append(u.Cases, times(1+r.IntN(5), on(pany(), nat(0)))...)
	}
}

// spoilPattern changes something in a pattern.
func spoilPattern(r interface{ IntN(int) int }, p *api.Pattern) {
	if len(p.Kids) > 0 && r.IntN(3) > 0 {
		spoilPattern(r, &p.Kids[r.IntN(len(p.Kids))])
		return
	}
	switch r.IntN(4) {
	case 0:
		p.Num += r.IntN(20) - 10
	case 1:
		p.Kind = r.IntN(5)
	case 2:
		p.Ref = x(byte(r.IntN(2)))
	case 3:
		p.Kids = append(p.Kids, times(1+r.IntN(4), pany())...)
	}
}

// P4.1: Same looks at each field, of whatever terms.
func TestSame(t *testing.T) {
	r := seeded(2)
	l := right(3, 60)
	for _, u := range slices.Clone(l) {
		u = cut(u)
		for range 1 + r.IntN(2) {
			spoil(r, &u)
		}
		l = append(l, u)
	}
	l = append(l, api.Term{}, api.Term{Kids: []api.Term{}, Cases: []api.Case{}}, api.Term{Kind: 1 << 40}, api.Term{Cases: times(1, api.Case{})}, lams(70, nat(0)), lams(71, nat(0)), sized(400))
	for i, a := range l {
		if !term.Same(a, cut(a)) {
			t.Error(shown(a))
		}
		for _, b := range l[i+1:] {
			if got := term.Same(a, b); got != same(a, b) {
				t.Error(shown(a), shown(b), got)
			}
			if term.Same(a, b) != term.Same(b, a) {
				t.Error(shown(a), shown(b))
			}
		}
	}
}

// P4.1: each field is held against the other's, wherever it is.
func TestSameFields(t *testing.T) {
	p := pcon(x(1), 2, pany(), pnat(3))
	base := api.Term{Kind: 5, Num: 6, Ref: x(7), Kids: []api.Term{nat(8), def(x(9))}, Cases: []api.Case{on(p, nat(10)), on(pany(), nat(11))}}
	for i, change := range []func(u *api.Term){
		func(u *api.Term) { u.Kind++ }, func(u *api.Term) { u.Num++ }, func(u *api.Term) { u.Ref[31]++ }, func(u *api.Term) { u.Kids = u.Kids[:1] }, func(u *api.Term) { u.Cases = u.Cases[:1] },
		func(u *api.Term) { u.Kids[1].Ref[0]++ }, func(u *api.Term) { u.Kids[0], u.Kids[1] = u.Kids[1], u.Kids[0] }, func(u *api.Term) { u.Cases[0], u.Cases[1] = u.Cases[1], u.Cases[0] },
		func(u *api.Term) { u.Cases[0].Body.Num++ }, func(u *api.Term) { u.Cases[0].Pat.Kind++ }, func(u *api.Term) { u.Cases[0].Pat.Num++ }, func(u *api.Term) { u.Cases[0].Pat.Ref[5]++ },
		func(u *api.Term) { u.Cases[0].Pat.Kids[1].Num++ }, func(u *api.Term) { u.Cases[0].Pat.Kids = u.Cases[0].Pat.Kids[1:] }, func(u *api.Term) { u.Kids[0].Kids = times(1, api.Term{}) },
	} {
		u := cut(base)
		if !term.Same(u, base) {
			t.Error(i)
		}
		change(&u)
		if term.Same(u, base) || term.Same(lam(u), lam(base)) || term.Same(match(u), match(base)) {
			t.Error(i)
		}
	}
	// Lists that begin at the same place can be of other lengths.
	all := []api.Term{nat(1), nat(2), nat(3)}
	long, short := api.Term{Kind: 1, Kids: all[:2]}, api.Term{Kind: 1, Kids: all[:1]}
	others := slices.Clone(all)
	others[1] = nat(9)
	if term.Same(api.Term{Kids: []api.Term{short, long}}, api.Term{Kids: []api.Term{{Kind: 1, Kids: others[:1]}, {Kind: 1, Kids: others[:2]}}}) {
		t.Error("a longer list")
	}
}

// P0.1: terms that are in themselves are compared, too, and a term whose parts are shared again and again.
func TestSameRound(t *testing.T) {
	l, m := round(), round()
	for i, a := range l {
		for j, b := range m {
			if term.Same(a, b) != (i == j) || term.Same(a, a) != true {
				t.Error(i, j)
			}
		}
		if term.Same(a, nat(0)) {
			t.Error(i)
		}
	}
	if !term.Same(lam(l[0]), m[0]) || term.Same(lams(200, nat(0)), m[0]) {
		t.Error("unrolled")
	}
	a, b := nat(0), nat(0)
	for range 100 {
		a, b = app(a, a), app(b, b)
	}
	if !term.Same(a, b) {
		t.Error("shared")
	}
}

// P4.1: the examples of the chapter.
func TestCheckExamples(t *testing.T) {
	h := handle(x(1), nat(1), v(0))
	checked(t, "5", h, api.OK)
	if free, e := term.Free(h); len(free) != 0 || e != api.OK {
		t.Error(free, e)
	}
	h.Kids = h.Kids[:1]
	checked(t, "5", h, api.ErrMany)
	if n, e := term.Size(match(v(0), on(pcon(x(1), 0, pany(), pany()), app(v(1), v(2))))); n != 8 || e != api.OK {
		t.Error(n, e)
	}
}
