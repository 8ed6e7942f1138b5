package knot_test

import (
	"math"
	"slices"
	"testing"

	"hoarstone/api"
	"hoarstone/knot"
	"hoarstone/term"
)

// P6.1: 1 to 8 members; then the first error of a member, with the depth 0 and as many members as there are.
func TestCheck(t *testing.T) {
	bad := api.Term{}
	for i, y := range []struct {
		l    []api.Term
		want api.Errno
	}{
		{nil, api.ErrMany}, {group(), api.ErrMany}, {group(nat(1)), api.OK}, {times(8, nat(1)), api.OK}, {times(9, nat(1)), api.ErrMany}, {times(9, bad), api.ErrMany}, {times(1000, nat(1)), api.ErrMany},
		{group(v(0)), api.ErrNot}, {group(lam(v(0))), api.OK}, {group(lam(v(1))), api.ErrNot}, {group(nat(0), lam(v(1))), api.ErrNot}, {group(match(nat(0), on(pany(), v(0)))), api.OK}, {group(match(nat(0), on(pnat(0), v(0)))), api.ErrNot},
		{group(self(0)), api.OK}, {group(self(1)), api.ErrNot}, {group(self(-1)), api.ErrNot}, {group(self(math.MaxInt)), api.ErrNot}, {group(self(1), self(1)), api.OK}, {group(self(1), self(2)), api.ErrNot}, {times(8, self(7)), api.OK}, {times(8, self(8)), api.ErrNot}, {times(7, self(7)), api.ErrNot},
		{group(lams(59, nat(0))), api.OK}, {group(lams(60, nat(0))), api.ErrLong}, {group(nat(0), holding(nat(0), 300)), api.OK}, {group(nat(0), holding(nat(0), 301)), api.ErrLong}, {times(8, holding(nat(0), 300)), api.OK},
		// The first member decides, not the error that is named first.
		{group(bad, v(0)), api.ErrRange}, {group(v(0), bad), api.ErrNot}, {group(nat(-1), lams(60, nat(0)), bad), api.ErrRange}, {group(lams(60, nat(0)), nat(-1)), api.ErrLong}, {group(nat(0), api.Term{Kind: api.Lam}, v(0)), api.ErrMany}, {group(nat(0), nat(0), api.Term{Kind: api.Lam, Num: 1}, bad), api.ErrClash},
		{times(8, bad), api.ErrRange}, {append(times(7, nat(0)), bad), api.ErrRange},
	} {
		if e := knot.Check(y.l); e != y.want {
			t.Errorf("%d: %v, want %v", i, e, y.want)
		}
	}
	for _, u := range round() {
		wants(t, "round", knot.Check(group(nat(0), u)), api.ErrLong)
	}
	r := seeded(1)
	for range 300 {
		l := large(r)
		wants(t, "right", knot.Check(l), api.OK)
		// A member that calls, or needs, more than there is.
		at := r.IntN(len(l))
		for _, u := range []api.Term{self(len(l)), v(0), nat(-1), {}} {
			spoiled := slices.Clone(l)
			spoiled[at] = lam(lam(app(spoiled[at], u)))
			want := term.Check(spoiled[at], 0, len(l))
			wants(t, "spoiled", knot.Check(spoiled), want)
			spoiled[at] = app(l[at], u)
			wants(t, "spoiled", knot.Check(spoiled), term.Check(spoiled[at], 0, len(l)))
		}
	}
}

// P6.1: the members that are called, rising, each once.
func TestCalls(t *testing.T) {
	l := group(plus(self(2), plus(self(0), self(2))), nat(1), match(self(1), on(pcon(x(1), 0, pany()), self(3)), on(pany(), self(0))), handle(x(1), self(3), lam(self(3))), def(x(0)))
	got, e := knot.Calls(l)
	is(t, "Calls", got, [][]int{{0, 2}, nil, {0, 1, 3}, {3}, nil}, e, api.OK)
	got, e = knot.Calls(times(8, con(x(1), 0, self(7), con(x(1), 0, self(6), self(5), self(4)), self(3), con(x(1), 0, self(2), self(1), self(0)))))
	is(t, "all", got, times(8, []int{0, 1, 2, 3, 4, 5, 6, 7}), e, api.OK)
	for _, l := range groups(2, 500) {
		got, e := knot.Calls(l)
		is(t, "Calls of "+told(l), got, plainCalls(l), e, api.OK)
	}
}

// P6.1: the first one that is alike, which shows in no step, in one, or in several.
func TestAlike(t *testing.T) {
	far := func(end api.Term) []api.Term {
		// Members 0 to 6 call the next one; what tells them apart is at the end.
		l := group(self(1), self(2), self(3), self(4), self(5), self(6), self(7))
		return append(l, end)
	}
	for i, y := range []struct {
		l    []api.Term
		want []int
	}{
		{group(nat(1)), []int{0}}, {group(nat(1), nat(1)), []int{0, 0}}, {group(nat(1), nat(2)), []int{0, 1}}, {group(nat(2), nat(1), nat(2), nat(1)), []int{0, 1, 0, 1}},
		{group(lam(app(self(1), v(0))), lam(app(self(0), v(0)))), []int{0, 0}}, {group(self(0), self(0)), []int{0, 0}}, {group(self(1), self(0)), []int{0, 0}}, {group(even(1), odd(0)), []int{0, 1}}, {group(even(1), odd(0), even(3), odd(2)), []int{0, 1, 0, 1}}, {group(even(1), odd(2), even(3), odd(0)), []int{0, 1, 0, 1}},
		{far(self(0)), times(8, 0)}, {far(self(3)), times(8, 0)}, {far(nat(0)), []int{0, 1, 2, 3, 4, 5, 6, 7}}, {far(lam(self(0))), []int{0, 1, 2, 3, 4, 5, 6, 7}},
		{group(plus(self(0), self(1)), plus(self(1), self(0)), nat(0)), []int{0, 0, 2}}, {group(plus(self(2), self(1)), plus(self(1), self(2)), nat(0)), []int{0, 1, 2}},
		// What is called at the same place counts, not how often, nor in which order.
		{group(plus(self(2), self(3)), plus(self(3), self(2)), nat(0), nat(1)), []int{0, 1, 2, 3}}, {group(plus(self(2), self(3)), plus(self(4), self(3)), nat(0), nat(1), nat(0)), []int{0, 0, 2, 3, 2}},
		// A Self is not a Def, nor a number, whatever it stands for.
		{group(self(2), def(x(0)), def(x(0)), nat(0), self(3)), []int{0, 1, 1, 3, 4}},
		// Everything else that tells terms apart.
		{group(con(x(1), 0), con(x(1), 1), con(x(2), 0), con(x(1), 0, nat(0)), con(x(1), 0)), []int{0, 1, 2, 3, 0}},
		{group(match(nat(0), on(pany(), self(0))), match(nat(0), on(pnat(0), self(0))), match(nat(0), on(pnat(1), self(0))), match(nat(0)), match(nat(0), on(pany(), self(4)))), []int{0, 1, 2, 3, 0}},
		{group(match(nat(0), on(pcon(x(1), 0, pany()), nat(0))), match(nat(0), on(pcon(x(1), 0), nat(0))), match(nat(0), on(pcon(x(2), 0, pany()), nat(0))), match(nat(0), on(pcon(x(1), 1, pany()), nat(0))), match(nat(0), on(pcon(x(1), 0, pnat(0)), nat(0)))), []int{0, 1, 2, 3, 4}},
		{group(do(x(1), 0, self(0)), do(x(1), 1, self(0)), handle(x(1), self(0), self(0)), handle(x(2), self(0), self(0)), prim(1, self(0), self(0)), prim(2, self(0), self(0)), let(self(0), self(0)), app(self(0), self(0))), []int{0, 1, 2, 3, 4, 5, 6, 7}},
	} {
		got, e := knot.Alike(y.l)
		if e != api.OK || !slices.Equal(got, y.want) {
			t.Errorf("%d: %v, %v, want %v", i, got, e, y.want)
		}
	}
	for _, l := range groups(3, 1500) {
		got, e := knot.Alike(l)
		is(t, "Alike of "+told(l), got, plainAlike(l), e, api.OK)
	}
	r := seeded(4)
	for range 300 {
		l := small(r, 4)
		made, of := crowd(r, l)
		got, _ := knot.Alike(made)
		whole, _ := knot.Alike(l)
		for i := range made {
			for j := range made {
				if (got[i] == got[j]) != (whole[of[i]] == whole[of[j]]) {
					t.Error(told(made), i, j)
				}
			}
		}
	}
}

// P6.4: members in another order, whose Selfs call the same ones.
func TestPermute(t *testing.T) {
	got, e := knot.Permute(group(lam(self(0)), plus(self(1), self(0))), []int{1, 0})
	is(t, "two", got, group(plus(self(0), self(1)), lam(self(1))), e, api.OK)
	three := group(self(1), lam(self(2)), match(self(0), on(pcon(x(1), 2, pany(), pnat(3)), self(2)), on(pany(), self(1))))
	got, e = knot.Permute(three, []int{2, 0, 1})
	is(t, "three", got, group(match(self(1), on(pcon(x(1), 2, pany(), pnat(3)), self(0)), on(pany(), self(2))), self(2), lam(self(0))), e, api.OK)
	got, e = knot.Permute(three, []int{0, 1, 2})
	is(t, "as it was", got, three, e, api.OK)
	for i, y := range []struct {
		l     []api.Term
		order []int
		want  api.Errno
	}{
		{three, nil, api.ErrMany}, {three, []int{0, 1}, api.ErrMany}, {three, []int{0, 1, 2, 3}, api.ErrMany}, {three, []int{9, 9}, api.ErrMany}, {three, []int{0, 0, 0, 0}, api.ErrMany}, {three, make([]int, 1000), api.ErrMany},
		{three, []int{0, 1, 3}, api.ErrNot}, {three, []int{-1, 0, 1}, api.ErrNot}, {three, []int{0, math.MaxInt, 1}, api.ErrNot}, {three, []int{0, 1, math.MinInt}, api.ErrNot}, {three, []int{0, 1, 40}, api.ErrNot},
		{three, []int{0, 1, 1}, api.ErrTwice}, {three, []int{0, 0, 1}, api.ErrTwice}, {three, []int{2, 2, 2}, api.ErrTwice},
		// Number by number: the first one that is wrong decides.
		{three, []int{0, 0, 3}, api.ErrTwice}, {three, []int{0, 3, 0}, api.ErrNot}, {three, []int{3, 3, 0}, api.ErrNot}, {three, []int{-1, -1, 0}, api.ErrNot},
		{nil, nil, api.ErrMany}, {nil, []int{0}, api.ErrMany}, {times(9, nat(0)), []int{0, 1, 2, 3, 4, 5, 6, 7, 8}, api.ErrMany}, {group(v(0)), []int{0, 1}, api.ErrNot}, {group(nat(-1)), []int{0, 1}, api.ErrRange}, {group(nat(-1)), []int{5}, api.ErrRange},
		{times(8, self(7)), []int{7, 6, 5, 4, 3, 2, 1, 8}, api.ErrNot}, {times(8, self(7)), []int{7, 6, 5, 4, 3, 2, 1, 7}, api.ErrTwice}, {times(8, self(7)), []int{7, 6, 5, 4, 3, 2, 1, 0}, api.OK},
	} {
		got, e := knot.Permute(y.l, y.order)
		if e != y.want || e != api.OK && len(got) > 0 {
			t.Errorf("%d: %v, %v, want %v", i, told(got), e, y.want)
		}
	}
	r := seeded(5)
	for _, l := range groups(6, 500) {
		order := r.Perm(len(l))
		got, e := knot.Permute(l, order)
		is(t, "Permute of "+told(l), got, plainPermute(l, order), e, api.OK)
		back := make([]int, len(l))
		for k, i := range order {
			back[i] = k
		}
		again, e := knot.Permute(got, back)
		is(t, "and back", again, l, e, api.OK)
	}
}
