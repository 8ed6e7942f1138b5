package term_test

import (
	"math"
	"slices"
	"strconv"
	"testing"

	"hoarstone/api"
	"hoarstone/term"
)

// dresser gives names to variables, each one once.
type dresser struct{ given int }

// fresh returns names that were not given yet.
func (d *dresser) fresh(n int) []string {
	var l []string
	for range n {
		d.given++
		l = append(l, "bound"+strconv.Itoa(d.given))
	}
	return l
}

// dress returns a term with names; around are those of the variables around it, the one bound last first.
func (d *dresser) dress(t api.Term, around []string) term.Named {
	n := term.Named{Kind: t.Kind, Num: t.Num, Ref: t.Ref}
	under := func(kid api.Term, names []string) {
		n.Names = append(n.Names, names...)
		n.Kids = append(n.Kids, d.dress(kid, outwards(names, around)))
	}
	switch t.Kind {
	case api.Var:
		return term.Named{Kind: api.Var, Names: []string{around[t.Num]}}
	case api.Lam:
		under(t.Kids[0], d.fresh(1))
	case api.Let:
		under(t.Kids[0], nil)
		under(t.Kids[1], d.fresh(1))
	case api.Handle:
		for i, kid := range t.Kids {
			under(kid, d.fresh(min(i, 2)))
		}
	default:
		for _, kid := range t.Kids {
			under(kid, nil)
		}
	}
	for _, c := range t.Cases {
		names := d.fresh(bindings(c.Pat))
		n.Cases = append(n.Cases, term.NamedCase{Pat: c.Pat, Names: names, Body: d.dress(c.Body, outwards(names, around))})
	}
	return n
}

// outwards returns the names around what binds names, one after the other, the one bound last first.
func outwards(names, around []string) []string {
	l := slices.Clone(names)
	slices.Reverse(l)
	return append(l, around...)
}

// undress returns the term of one with names, which are right.
func undress(n term.Named, around []string) api.Term {
	t := api.Term{Kind: n.Kind, Num: n.Num, Ref: n.Ref}
	if n.Kind == api.Var {
		t.Num = slices.Index(around, n.Names[0])
	}
	left := n.Names
	for i, kid := range n.Kids {
		binds := 0
		switch n.Kind {
		case api.Lam:
			binds = 1
		case api.Let:
			binds = i
		case api.Handle:
			binds = min(i, 2)
		}
		t.Kids = append(t.Kids, undress(kid, outwards(left[:binds], around)))
		left = left[binds:]
	}
	for _, c := range n.Cases {
		t.Cases = append(t.Cases, on(c.Pat, undress(c.Body, outwards(c.Names, around))))
	}
	return t
}

// replaced returns a term with names with another one in the place of a name that no binder has.
func replaced(n term.Named, name string, by term.Named) term.Named {
	if n.Kind == api.Var {
		if n.Names[0] == name {
			return by
		}
		return n
	}
	n.Kids, n.Cases = slices.Clone(n.Kids), slices.Clone(n.Cases)
	for i := range n.Kids {
		n.Kids[i] = replaced(n.Kids[i], name, by)
	}
	for i := range n.Cases {
		n.Cases[i].Body = replaced(n.Cases[i].Body, name, by)
	}
	return n
}

// fronts returns so many names of free variables.
func fronts(n int) []string {
	var l []string
	for i := range n {
		l = append(l, "front"+strconv.Itoa(i))
	}
	return l
}

// plainSubst is Subst without its errors, by names: all binders have names of their own, so that nothing is caught.
func plainSubst(t api.Term, n int, u api.Term) api.Term {
	front := fronts(60)
	var d dresser
	return undress(replaced(d.dress(t, slices.Insert(slices.Clone(front), n, "hole")), "hole", d.dress(u, front)), front)
}

// plainFree is Free without its errors, by names.
func plainFree(t api.Term) []int {
	front := fronts(60)
	var d dresser
	met := variables(d.dress(t, front))
	var l []int
	for i, name := range front {
		if slices.Contains(met, name) {
			l = append(l, i)
		}
	}
	return l
}

// variables returns the names of all Vars in a term.
func variables(n term.Named) []string {
	if n.Kind == api.Var {
		return n.Names
	}
	var l []string
	for _, kid := range n.Kids {
		l = append(l, variables(kid)...)
	}
	for _, c := range n.Cases {
		l = append(l, variables(c.Body)...)
	}
	return l
}

// subst is Subst of what has no error.
func subst(t *testing.T, u api.Term, n int, w api.Term) api.Term {
	t.Helper()
	made, e := term.Subst(u, n, w)
	if e != api.OK {
		t.Errorf("Subst(%s, %d, %s): %v", shown(u), n, shown(w), e)
	}
	return made
}

// P4.2: the examples of the chapter.
func TestVariableExamples(t *testing.T) {
	one := lam(app(v(0), v(1)))
	free, e := term.Free(one)
	is(t, "1", free, []int{0}, e, api.OK)
	is(t, "1", subst(t, one, 0, nat(5)), lam(app(v(0), nat(5))), api.OK, api.OK)
	is(t, "1", subst(t, one, 0, v(3)), lam(app(v(0), v(4))), api.OK, api.OK)
	made, e := term.Shift(one, 2, 0)
	is(t, "2", made, lam(app(v(0), v(3))), e, api.OK)
	made, e = term.Shift(v(0), -1, 0)
	is(t, "2", made, api.Term{}, e, api.ErrNot)
	made, e = term.Shift(v(0), -1, 1)
	is(t, "2", made, v(0), e, api.OK)
	free, e = term.Free(match(v(0), on(pcon(x(1), 0, pany(), pany()), app(v(1), v(2)))))
	is(t, "3", free, []int{0}, e, api.OK)
}

// binders is each kind of binder around a part, with how many variables more are bound there.
func binders() map[string]struct {
	more int
	of   func(u api.Term) api.Term
} {
	type binder = struct {
		more int
		of   func(u api.Term) api.Term
	}
	r := x(1)
	return map[string]binder{
		"none":       {0, func(u api.Term) api.Term { return app(nat(1), u) }},
		"Lam":        {1, lam},
		"Let, value": {0, func(u api.Term) api.Term { return let(u, v(0)) }},
		"Let, body":  {1, func(u api.Term) api.Term { return let(nat(0), u) }},
		"Match, Kid": {0, func(u api.Term) api.Term { return match(u, on(pany(), v(0))) }},
		"PAny":       {1, func(u api.Term) api.Term { return match(nat(0), on(pany(), u)) }},
		"PNat":       {0, func(u api.Term) api.Term { return match(nat(0), on(pany(), v(0)), on(pnat(1), u)) }},
		"PCon": {3, func(u api.Term) api.Term {
			return match(nat(0), on(pnat(1), nat(0)), on(pcon(r, 0, pany(), pcon(r, 0, pany(), pnat(2), pany())), u))
		}},
		"Handle, Kid":     {0, func(u api.Term) api.Term { return handle(r, u, v(0), v(1)) }},
		"Handle, value":   {1, func(u api.Term) api.Term { return handle(r, nat(0), u, v(1)) }},
		"Handle, clause":  {2, func(u api.Term) api.Term { return handle(r, nat(0), v(0), u) }},
		"Handle, clauses": {2, func(u api.Term) api.Term { return handle(r, nat(0), v(0), v(1), v(1), u) }},
		"Do, Con, Prim":   {0, func(u api.Term) api.Term { return do(r, 0, con(r, 0, nat(0), prim(1, nat(0), u))) }},
		"two":             {3, func(u api.Term) api.Term { return lam(handle(r, nat(0), nat(0), u)) }},
	}
}

// P4.2: under each binder the variables that it binds stay, and those around it are free, shifted, and put there, without anything that is caught.
func TestUnderBinders(t *testing.T) {
	for name, b := range binders() {
		for n := range b.more + 3 {
			u := b.of(v(n))
			var want []int
			if n >= b.more {
				want = []int{n - b.more}
			}
			free, e := term.Free(u)
			is(t, name+": Free", free, want, e, api.OK)
			for from := range 4 {
				now := n
				if n >= b.more+from {
					now = n + 2
				}
				made, e := term.Shift(u, 2, from)
				is(t, name+": Shift", made, b.of(v(now)), e, api.OK)
			}
			for hole := range 4 {
				// What is put there has a variable of its own, which stays, and two free ones, which are those in front.
				w := lam(app(v(0), app(v(1), v(7))))
				there := lam(app(v(0), app(v(1+b.more), v(7+b.more))))
				switch {
				case n < b.more || n-b.more < hole:
					there = v(n)
				case n-b.more > hole:
					there = v(n - 1)
				}
				is(t, name+": Subst", subst(t, u, hole, w), b.of(there), api.OK, api.OK)
			}
		}
	}
}

// P4.2: Free, Shift and Subst are the same as with names, of which each one is given once.
func TestVariablesByNames(t *testing.T) {
	r := seeded(5)
	l := right(6, 300)
	for _, u := range l {
		free, e := term.Free(u)
		is(t, "Free "+shown(u), free, plainFree(u), e, api.OK)
		n := r.IntN(60)
		if len(free) > 0 && r.IntN(4) > 0 {
			n = free[r.IntN(len(free))]
		}
		w := l[r.IntN(len(l))]
		want := plainSubst(u, n, w)
		wantE := api.OK
		if plainCheck(want, 60, 8) == api.ErrLong {
			want, wantE = api.Term{}, api.ErrLong
		}
		made, e := term.Subst(u, n, w)
		is(t, "Subst "+shown(u), made, want, e, wantE)

		by, from := r.IntN(121)-60, r.IntN(61)
		if r.IntN(2) == 0 {
			by, from = r.IntN(7)-3, r.IntN(4)
		}
		front := fronts(60)
		moved, wantE := slices.Clone(front), api.OK
		for i := range moved {
			moved[i] = "nothing"
		}
		for i, name := range front {
			to := i
			if i >= from {
				to = i + by
			}
			if i >= from && (to < from || to >= 60) {
				if slices.Contains(free, i) {
					wantE = api.ErrNot
				}
				continue
			}
			moved[to] = name
		}
		want = api.Term{}
		if wantE == api.OK {
			var d dresser
			want = undress(d.dress(u, front), moved)
		}
		made, e = term.Shift(u, by, from)
		is(t, "Shift "+shown(u), made, want, e, wantE)
	}
}

// P4.2: the numbers that are allowed, and those next to them; which error comes first.
func TestShiftLimits(t *testing.T) {
	for i, y := range []struct {
		t        api.Term
		by, from int
		want     api.Term
		e        api.Errno
	}{
		{v(0), 59, 0, v(59), api.OK}, {v(0), 60, 0, api.Term{}, api.ErrNot}, {v(0), 61, 0, api.Term{}, api.ErrRange}, {v(0), -61, 0, api.Term{}, api.ErrRange}, {v(0), -60, 0, api.Term{}, api.ErrNot},
		{v(0), 60, 1, v(0), api.OK}, {v(59), -59, 0, v(0), api.OK}, {v(59), -60, 0, api.Term{}, api.ErrNot}, {v(59), 1, 0, api.Term{}, api.ErrNot}, {v(59), 60, 60, v(59), api.OK}, {v(59), 0, 59, v(59), api.OK},
		{v(59), -1, 59, api.Term{}, api.ErrNot}, {v(59), -1, 58, v(58), api.OK}, {nat(3), 60, 0, nat(3), api.OK}, {nat(3), -60, 60, nat(3), api.OK},
		{v(0), 0, -1, api.Term{}, api.ErrRange}, {v(0), 0, 61, api.Term{}, api.ErrRange}, {v(0), 0, 60, v(0), api.OK}, {v(0), 60, -1, api.Term{}, api.ErrRange},
		{v(0), math.MaxInt, 0, api.Term{}, api.ErrRange}, {v(0), math.MinInt, 0, api.Term{}, api.ErrRange}, {v(0), 0, math.MinInt, api.Term{}, api.ErrRange}, {v(0), 0, math.MaxInt, api.Term{}, api.ErrRange},
		{v(60), 61, 0, api.Term{}, api.ErrNot}, {api.Term{}, 61, 0, api.Term{}, api.ErrRange}, {api.Term{Kind: api.Lam}, 61, 0, api.Term{}, api.ErrMany},
		{app(v(2), v(5)), -2, 3, app(v(2), v(3)), api.OK}, {app(v(2), v(5)), -3, 3, api.Term{}, api.ErrNot}, {app(v(2), v(5)), -2, 2, api.Term{}, api.ErrNot},
		{app(v(1), v(59)), 1, 1, api.Term{}, api.ErrNot}, {lam(app(v(0), v(1))), -1, 0, api.Term{}, api.ErrNot}, {lam(v(0)), -1, 0, lam(v(0)), api.OK}, {lam(v(60)), 1, 0, api.Term{}, api.ErrNot},
	} {
		made, e := term.Shift(y.t, y.by, y.from)
		is(t, "Shift "+strconv.Itoa(i), made, y.want, e, y.e)
	}
}

// P4.2: likewise for Subst; results may be as large and as deep as right terms, and no more.
func TestSubstLimits(t *testing.T) {
	bad := api.Term{}
	for i, y := range []struct {
		t    api.Term
		n    int
		u    api.Term
		want api.Term
		e    api.Errno
	}{
		{v(59), 59, nat(1), nat(1), api.OK}, {v(59), 0, nat(1), v(58), api.OK}, {v(0), 59, nat(1), v(0), api.OK}, {v(0), 60, nat(1), bad, api.ErrRange}, {v(0), -1, nat(1), bad, api.ErrRange},
		{v(0), math.MinInt, nat(1), bad, api.ErrRange}, {v(0), math.MaxInt, nat(1), bad, api.ErrRange}, {v(0), 0, v(59), v(59), api.OK}, {lam(v(1)), 0, v(59), lam(v(60)), api.OK}, {lam(v(60)), 59, v(59), lam(v(60)), api.OK},
		{v(0), 60, bad, bad, api.ErrRange}, {v(0), 60, nat(-1), bad, api.ErrRange}, {v(0), -1, api.Term{Kind: api.Lam}, bad, api.ErrMany}, {api.Term{Kind: api.Lam}, -1, nat(-1), bad, api.ErrMany},
		{nat(1), 0, v(60), bad, api.ErrNot}, {nat(1), 0, nat(2), nat(1), api.OK}, {nat(1), 0, lams(60, nat(0)), bad, api.ErrLong},
		{lam(v(1)), 0, lams(58, nat(0)), lams(59, nat(0)), api.OK}, {lam(v(1)), 0, lams(59, nat(0)), bad, api.ErrLong}, {v(0), 0, lams(59, nat(0)), lams(59, nat(0)), api.OK},
		{app(v(0), v(1)), 0, sized(298), app(sized(298), v(0)), api.OK}, {app(v(0), v(1)), 0, sized(299), bad, api.ErrLong}, {app(v(0), v(0)), 0, sized(150), bad, api.ErrLong},
		{let(v(0), v(1)), 0, sized(149), let(sized(149), sized(149)), api.OK}, {app(nat(0), v(1)), 0, sized(300), app(nat(0), v(0)), api.OK}, {v(0), 0, sized(300), sized(300), api.OK},
		{lam(v(1)), 0, sized(300), bad, api.ErrLong}, {lam(v(1)), 0, sized(301), bad, api.ErrLong}, {lam(v(1)), 60, sized(300), bad, api.ErrRange},
		{match(v(0), on(pany(), v(1))), 0, match(nat(0), on(deepPattern(58), nat(0))), match(match(nat(0), on(deepPattern(58), nat(0))), on(pany(), match(nat(0), on(deepPattern(58), nat(0))))), api.OK},
		{match(v(0), on(pany(), v(1))), 0, match(nat(0), on(deepPattern(59), nat(0))), bad, api.ErrLong},
	} {
		made, e := term.Subst(y.t, y.n, y.u)
		is(t, "Subst "+strconv.Itoa(i), made, y.want, e, y.e)
	}
	var many api.Term = v(0)
	for range 4 {
		many = con(x(1), 0, many, many, many)
	}
	made, e := term.Subst(many, 0, sized(300))
	is(t, "much too many", made, bad, e, api.ErrLong)
}
