package term_test

import (
	"slices"
	"strconv"
	"strings"
	"testing"

	"hoarstone/api"
	"hoarstone/term"
)

// letters returns the name with a number: those of one letter, then those of two, and so on.
func letters(n int) string {
	long, many := 1, 26
	for n >= many {
		n -= many
		long, many = long+1, many*26
	}
	s := ""
	for range long {
		s = string(rune('a'+n%26)) + s
		n /= 26
	}
	return s
}

// firstNames returns so many names, in their order.
func firstNames(n int) []string {
	var l []string
	for i := range n {
		l = append(l, letters(i))
	}
	return l
}

// fresh returns the first names that are not in lists.
func fresh(n int, lists ...[]string) []string {
	var own []string
	taken := slices.Concat(lists...)
	for i := 0; len(own) < n; i++ {
		if name := letters(i); !slices.Contains(taken, name) {
			own = append(own, name)
		}
	}
	return own
}

// plainName is Name without its errors; bound are the names around, the one bound last first. Each part that binds variables is a binder of its own.
func plainName(t api.Term, bound, free []string) term.Named {
	if t.Kind == api.Var {
		return term.Named{Kind: api.Var, Names: []string{slices.Concat(bound, free)[t.Num]}}
	}
	n := term.Named{Kind: t.Kind, Num: t.Num, Ref: t.Ref}
	for i, kid := range t.Kids {
		own := 0
		switch {
		case t.Kind == api.Lam, t.Kind == api.Let && i == 1, t.Kind == api.Handle && i == 1:
			own = 1
		case t.Kind == api.Handle && i > 1:
			own = 2
		}
		names := fresh(own, bound, free)
		n.Names = append(n.Names, names...)
		n.Kids = append(n.Kids, plainName(kid, outwards(names, bound), free))
	}
	for _, c := range t.Cases {
		names := fresh(bindings(c.Pat), bound, free)
		n.Cases = append(n.Cases, term.NamedCase{Pat: c.Pat, Names: names, Body: plainName(c.Body, outwards(names, bound), free)})
	}
	return n
}

func nv(name string) term.Named { return term.Named{Kind: api.Var, Names: []string{name}} }
func nn(n int) term.Named       { return term.Named{Kind: api.Nat, Num: n} }
func nlam(name string, body term.Named) term.Named {
	return term.Named{Kind: api.Lam, Names: []string{name}, Kids: []term.Named{body}}
}
func napp(f, a term.Named) term.Named { return term.Named{Kind: api.App, Kids: []term.Named{f, a}} }
func nlet(name string, value, body term.Named) term.Named {
	return term.Named{Kind: api.Let, Names: []string{name}, Kids: []term.Named{value, body}}
}
func nhandle(names string, kids ...term.Named) term.Named {
	return term.Named{Kind: api.Handle, Ref: x(1), Names: strings.Fields(names), Kids: kids}
}
func nmatch(what term.Named, cases ...term.NamedCase) term.Named {
	return term.Named{Kind: api.Match, Kids: []term.Named{what}, Cases: cases}
}
func non(p api.Pattern, names string, body term.Named) term.NamedCase {
	return term.NamedCase{Pat: p, Names: strings.Fields(names), Body: body}
}

// P4.5: names by hand, the examples of the chapter among them; Nameless leads back.
func TestNames(t *testing.T) {
	r := x(1)
	two := pcon(r, 0, pany(), pnat(1), pcon(r, 1, pany()))
	for i, y := range []struct {
		t    api.Term
		free []string
		want term.Named
	}{
		{lam(lam(v(1))), nil, nlam("a", nlam("b", nv("a")))},
		{lam(lam(v(1))), []string{"a"}, nlam("b", nlam("c", nv("b")))},
		{v(1), []string{"x", "y", "z"}, nv("y")},
		{app(lam(v(0)), lam(v(1))), []string{"b"}, napp(nlam("a", nv("a")), nlam("a", nv("b")))},
		{let(lam(v(0)), app(v(0), v(1))), []string{"f"}, nlet("a", nlam("a", nv("a")), napp(nv("a"), nv("f")))},
		{match(v(0), on(two, app(v(0), app(v(1), v(2)))), on(pnat(1), v(0)), on(pany(), v(0))), []string{"a"}, nmatch(nv("a"), non(two, "b c", napp(nv("c"), napp(nv("b"), nv("a")))), non(pnat(1), "", nv("a")), non(pany(), "b", nv("b")))},
		{handle(r, nat(1), v(0)), nil, nhandle("a", nn(1), nv("a"))},
		{lam(handle(r, v(0), v(1), app(v(0), app(v(1), v(2))), app(v(0), v(1)))), []string{"c"}, nlam("a", nhandle("b b d b d", nv("a"), nv("a"), napp(nv("d"), napp(nv("b"), nv("a"))), napp(nv("d"), nv("b"))))},
		{handle(r, lam(v(0)), lam(v(0)), lam(v(1)), lam(v(2))), nil, nhandle("a a b a b", nlam("a", nv("a")), nlam("b", nv("b")), nlam("c", nv("b")), nlam("c", nv("a")))},
		{lam(match(v(0), on(two, lam(v(0))))), []string{"b", "aa"}, nlam("a", nmatch(nv("a"), non(two, "c d", nlam("e", nv("e")))))},
	} {
		got, e := term.Name(y.t, y.free)
		is(t, "Name "+strconv.Itoa(i), got, y.want, e, api.OK)
		back, e := term.Nameless(y.want, y.free)
		is(t, "Nameless "+strconv.Itoa(i), back, y.t, e, api.OK)
	}
}

// P4.5: the order of names goes on behind z, and behind zz.
func TestNameNumbers(t *testing.T) {
	if letters(0) != "a" || letters(25) != "z" || letters(26) != "aa" || letters(52) != "ba" || letters(702) != "aaa" {
		t.Error("the names of the test itself")
	}
	for _, n := range []int{0, 1, 24, 25, 26, 27, 50, 51, 52, 77, 78, 675, 676, 700, 701, 702, 703, 727, 728, 18277, 18278, 18279} {
		free := firstNames(n)
		slices.Reverse(free)
		got, e := term.Name(lam(v(0)), free)
		is(t, strconv.Itoa(n), got, nlam(letters(n), nv(letters(n))), e, api.OK)
	}
	// Names that are none of the order, or much further on in it, do not count.
	got, e := term.Name(lam(v(0)), []string{"A", "é", "a1", "_", "zzzzzzzzzzzzzzzzzzzzzzzzz", "\x00", "\xff", "b"})
	is(t, "others", got, nlam("a", nv("a")), e, api.OK)
	// All that is bound around is not free to be taken: one behind the other.
	u, e := term.Name(lams(59, v(58)), nil)
	for i := range 59 {
		if e != api.OK || len(u.Names) != 1 || u.Names[0] != letters(i) {
			t.Fatal(i, u.Names, e)
		}
		u = u.Kids[0]
	}
	is(t, "innermost", u, nv("a"), e, api.OK)
	// A binder of more names than there are letters.
	four := pcon(x(1), 0, times(4, pcon(x(1), 0, times(4, pcon(x(1), 0, times(4, pany())...))...))...)
	many, e := term.Name(lam(match(nat(0), on(four, app(v(0), v(63))))), []string{"c"})
	names := fresh(65, []string{"c"})
	is(t, "64", many, nlam("a", nmatch(nn(0), term.NamedCase{Pat: four, Names: names[1:], Body: napp(nv(names[64]), nv("b"))})), e, api.OK)
}

// P4.5: each Kid of a Handle that binds variables is a binder of its own, whose names begin behind those that are free or bound around the Handle.
func TestHandleNames(t *testing.T) {
	r := x(1)
	both := app(v(0), v(1))
	for i, y := range []struct {
		t    api.Term
		free []string
		want term.Named
	}{
		{handle(r, v(0), v(0)), []string{"z"}, nhandle("a", nv("z"), nv("a"))},
		{handle(r, v(0), v(0), both), []string{"z"}, nhandle("a a b", nv("z"), nv("a"), napp(nv("b"), nv("a")))},
		{handle(r, v(0), v(1), app(v(0), v(2)), v(1)), []string{"b"}, nhandle("a a c a c", nv("b"), nv("b"), napp(nv("c"), nv("b")), nv("a"))},
		{handle(r, nat(0), nat(0), nat(0)), nil, nhandle("a a b", nn(0), nn(0), nn(0))},
		{handle(r, v(0), v(0), both), []string{"a"}, nhandle("b b c", nv("a"), nv("b"), napp(nv("c"), nv("b")))},
		{handle(r, v(0), v(0), both), []string{"b", "a", "d"}, nhandle("c c e", nv("b"), nv("c"), napp(nv("e"), nv("c")))},
		// Names begin behind those that are bound around the Handle, but not behind those that are bound in a part beside it.
		{lam(handle(r, v(0), both, both)), nil, nlam("a", nhandle("b b c", nv("a"), napp(nv("b"), nv("a")), napp(nv("c"), nv("b"))))},
		{let(handle(r, nat(0), v(0), v(1)), handle(r, v(0), v(1), v(2))), nil, nlet("a", nhandle("a a b", nn(0), nv("a"), nv("a")), nhandle("b b c", nv("a"), nv("a"), nv("a")))},
		{match(handle(r, nat(0), v(0), v(1)), on(pcon(r, 0, pany(), pany()), handle(r, both, v(0), v(0)))), nil, nmatch(nhandle("a a b", nn(0), nv("a"), nv("a")), non(pcon(r, 0, pany(), pany()), "a b", nhandle("c c d", napp(nv("b"), nv("a")), nv("c"), nv("d"))))},
		{app(handle(r, nat(0), v(0), v(0)), handle(r, nat(0), v(0), v(0))), nil, napp(nhandle("a a b", nn(0), nv("a"), nv("b")), nhandle("a a b", nn(0), nv("a"), nv("b")))},
		// A Handle in each Kid of a Handle: only what that Kid binds is bound around it.
		{handle(r, handle(r, nat(0), v(0), v(0)), handle(r, v(0), v(1), v(2)), handle(r, v(1), v(1), v(3))), nil, nhandle("a a b", nhandle("a a b", nn(0), nv("a"), nv("b")), nhandle("b b c", nv("a"), nv("a"), nv("a")), nhandle("c c d", nv("a"), nv("b"), nv("a")))},
		{handle(r, lam(v(0)), let(v(0), v(0)), lam(v(2)), match(v(0), on(pany(), v(2)))), nil, nhandle("a a b a b", nlam("a", nv("a")), nlet("b", nv("a"), nv("b")), nlam("c", nv("a")), nmatch(nv("b"), non(pany(), "c", nv("a"))))},
	} {
		got, e := term.Name(y.t, y.free)
		is(t, "Name "+strconv.Itoa(i), got, y.want, e, api.OK)
		back, e := term.Nameless(got, y.free)
		is(t, "Nameless "+strconv.Itoa(i), back, y.t, e, api.OK)
	}
	// A body for each operation that an ability can have, with names that run past z.
	for _, n := range []int{0, 1, 24, 25, 26, 700} {
		free := firstNames(n)
		got, e := term.Name(handle(r, append([]api.Term{nat(0), v(0)}, times(8, both)...)...), free)
		a, b := letters(n), letters(n+1)
		want := nhandle(a+strings.Repeat(" "+a+" "+b, 8), append([]term.Named{nn(0), nv(a)}, times(8, napp(nv(b), nv(a)))...)...)
		is(t, strconv.Itoa(n), got, want, e, api.OK)
	}
}

// P4.5: names as the chapter says, for whatever terms and free names.
func TestNamesOfAll(t *testing.T) {
	r := seeded(13)
	for _, u := range right(14, 400) {
		free := firstNames(60)
		if r.IntN(2) == 0 {
			free = fronts(60)
		}
		r.Shuffle(len(free), func(i, j int) { free[i], free[j] = free[j], free[i] })
		numbers, _ := term.Free(u)
		least := 0
		if len(numbers) > 0 {
			least = numbers[len(numbers)-1] + 1
		}
		free = free[:least+r.IntN(61-least)]
		got, e := term.Name(u, free)
		is(t, "Name "+shown(u), got, plainName(u, nil, free), e, api.OK)
		back, e := term.Nameless(got, free)
		is(t, "Nameless "+shown(u), back, u, e, api.OK)
		if least > 0 {
			got, e = term.Name(u, free[:least-1])
			is(t, "too few", got, term.Named{}, e, api.ErrNot)
		}
	}
}

// P4.5: the errors of Name, in their order.
func TestNameErrors(t *testing.T) {
	for i, y := range []struct {
		t    api.Term
		free string
		want api.Errno
	}{
		{api.Term{}, "", api.ErrRange}, {v(60), "a,,a", api.ErrNot}, {api.Term{Kind: api.Lam}, "a,,a", api.ErrMany}, {lams(60, nat(0)), ",", api.ErrLong},
		{v(0), ",a", api.ErrForm}, {v(5), "a,a,", api.ErrForm}, {v(5), "a,b,a", api.ErrTwice}, {nat(0), "a,a", api.ErrTwice}, {nat(0), "a,b,", api.ErrForm}, {nat(0), "b,a,b", api.ErrTwice},
		{v(0), "x", api.OK}, {v(1), "x", api.ErrNot}, {lam(v(1)), "x", api.OK}, {lam(v(2)), "x", api.ErrNot}, {app(v(3), v(0)), "x,y,z", api.ErrNot}, {app(v(2), v(0)), "x,y,z", api.OK},
	} {
		got, e := term.Name(y.t, strings.Split(y.free, ","))
		if y.free == "" {
			got, e = term.Name(y.t, nil)
		}
		if e != y.want || e != api.OK && !same(got, term.Named{}) {
			t.Error(i, e, got)
		}
	}
	_, e := term.Name(v(0), nil)
	_, f := term.Name(lam(v(0)), []string{})
	if e != api.ErrNot || f != api.OK {
		t.Error(e, f)
	}
	// There may be more names than a term has free variables.
	got, e := term.Name(lam(app(v(0), v(60))), fronts(1000))
	is(t, "1000", got, nlam("a", napp(nv("a"), nv("front59"))), e, api.OK)
}

// P4.5: of the names that several binders have, the one that was bound last is meant.
func TestNamelessAgain(t *testing.T) {
	three := pcon(x(1), 0, pany(), pany(), pany())
	for i, y := range []struct {
		n    term.Named
		free []string
		want api.Term
	}{
		{nlam("x", nlam("x", nv("x"))), nil, lam(lam(v(0)))}, {nlam("x", napp(nlam("x", nv("x")), nv("x"))), nil, lam(app(lam(v(0)), v(0)))},
		{nlet("x", nv("x"), nv("x")), []string{"x"}, let(v(0), v(0))}, {nlet("y", nv("x"), nv("x")), []string{"x"}, let(v(0), v(1))},
		{nmatch(nv("x"), non(three, "x y x", napp(nv("x"), nv("y"))), non(pany(), "y", nv("x"))), []string{"x"}, match(v(0), on(three, app(v(0), v(1))), on(pany(), v(1)))},
		{nmatch(nn(0), non(three, "x x y", nv("x"))), nil, match(nat(0), on(three, v(1)))},
		{nhandle("x x x", nv("x"), nv("x"), nv("x")), []string{"x"}, handle(x(1), v(0), v(0), v(0))}, {nhandle("y x y", nv("x"), nv("x"), napp(nv("x"), nv("y"))), []string{"x"}, handle(x(1), v(0), v(1), app(v(1), v(0)))},
		{nhandle("a b c d e", nn(0), nn(0), nn(0), napp(nv("e"), napp(nv("d"), nv("c")))), []string{"d", "c"}, handle(x(1), nat(0), nat(0), nat(0), app(v(0), app(v(1), v(3))))},
		{napp(nv("x"), nv("y")), []string{"x", "y", "x", "y"}, app(v(0), v(1))}, {nv(""), []string{"a", "", ""}, v(1)}, {nlam("", nv("")), nil, lam(v(0))}, {nlam("\x00 Z", napp(nv("\x00 Z"), nv("z"))), []string{"z"}, lam(app(v(0), v(1)))},
		{nv("front59"), fronts(60), v(59)}, {nlam("a", nv("front59")), fronts(60), lam(v(60))},
	} {
		got, e := term.Nameless(y.n, y.free)
		is(t, "Nameless "+strconv.Itoa(i), got, y.want, e, api.OK)
	}
}

// nlams returns a term with names in so many Lams.
func nlams(n int, body term.Named) term.Named {
	for range n {
		body = nlam("x", body)
	}
	return body
}

// P4.5: the errors of Nameless, in their order.
func TestNamelessErrors(t *testing.T) {
	one := []string{"x"}
	bare := func(kind int, kids ...term.Named) term.Named { return term.Named{Kind: kind, Kids: kids} }
	with := func(n term.Named, names ...string) term.Named { n.Names = names; return n }
	num := func(n term.Named, num int) term.Named { n.Num = num; return n }
	ref := func(n term.Named, ref api.Sum) term.Named { n.Ref = ref; return n }
	bad, lost := with(nn(0), "x"), nv("lost")
	clash := num(nv("x"), 1)
	deep := nlams(60, nn(0))
	for i, y := range []struct {
		n    term.Named
		free []string
		want api.Errno
	}{
		// Names that a node must have.
		{bare(api.Var), one, api.ErrMany}, {with(nv("x"), "x", "x"), one, api.ErrMany}, {bare(api.Lam, nn(0)), nil, api.ErrMany}, {with(nlam("x", nn(0)), "x", "y"), nil, api.ErrMany}, {bare(api.Let, nn(0), nn(0)), nil, api.ErrMany}, {with(nlet("x", nn(0), nn(0)), "x", "y"), nil, api.ErrMany},
		{nhandle("", nn(0), nn(0)), nil, api.ErrMany}, {nhandle("a b", nn(0), nn(0)), nil, api.ErrMany}, {nhandle("a", nn(0), nn(0), nn(0)), nil, api.ErrMany}, {nhandle("a b", nn(0), nn(0), nn(0)), nil, api.ErrMany}, {nhandle("a b c d", nn(0), nn(0), nn(0)), nil, api.ErrMany}, {nhandle("a b c d e", nn(0), nn(0), nn(0), nn(0)), nil, api.OK},
		{with(nn(0), "x"), nil, api.ErrMany}, {with(napp(nn(0), nn(0)), "x"), nil, api.ErrMany}, {with(bare(api.Def), "x"), nil, api.ErrMany}, {with(bare(api.Self), "x"), nil, api.ErrMany}, {with(bare(api.Con), "x"), nil, api.ErrMany}, {with(nmatch(nn(0)), "x"), nil, api.ErrMany}, {with(num(bare(api.Prim, nn(0), nn(0)), 1), "x"), nil, api.ErrMany}, {with(bare(api.Do, nn(0)), "x"), nil, api.ErrMany}, {with(bare(13), "x"), nil, api.ErrMany}, {with(bare(0), "x"), nil, api.ErrMany},
		{nmatch(nn(0), non(pany(), "", nn(0))), nil, api.ErrMany}, {nmatch(nn(0), non(pany(), "a b", nn(0))), nil, api.ErrMany}, {nmatch(nn(0), non(pnat(1), "a", nn(0))), nil, api.ErrMany}, {nmatch(nn(0), non(pany(), "a", nn(0)), non(pcon(x(1), 0, pany(), pcon(x(1), 0, pany())), "a", nn(0))), nil, api.ErrMany}, {nmatch(nn(0), non(pany(), "a", nn(0)), non(pcon(x(1), 0, pany(), pcon(x(1), 0, pany())), "a b", nn(0))), nil, api.OK},
		// A Var has no Num, and a name that is bound, or free.
		{clash, one, api.ErrClash}, {num(nv("x"), -1), one, api.ErrClash}, {num(lost, 1), one, api.ErrClash}, {num(bare(api.Var), 1), one, api.ErrMany}, {lost, one, api.ErrNot}, {lost, nil, api.ErrNot}, {nv(""), nil, api.ErrNot}, {nlam("x", nv("y")), one, api.ErrNot},
		{nlet("y", nv("y"), nn(0)), one, api.ErrNot}, {nhandle("a b c", nv("a"), nn(0), nn(0)), nil, api.ErrNot}, {nhandle("a b c", nn(0), nv("b"), nn(0)), nil, api.ErrNot}, {nhandle("a b c", nn(0), nn(0), nv("a")), nil, api.ErrNot}, {nhandle("a b c d e", nn(0), nn(0), nn(0), nv("c")), nil, api.ErrNot}, {nmatch(nv("a"), non(pany(), "a", nn(0))), nil, api.ErrNot}, {nmatch(nn(0), non(pany(), "a", nn(0)), non(pany(), "b", nv("a"))), nil, api.ErrNot}, {napp(nlam("a", nn(0)), nv("a")), nil, api.ErrNot},
		// Node by node in the order of Check.
		{napp(bad, lost), one, api.ErrMany}, {napp(lost, bad), one, api.ErrNot}, {napp(clash, bad), one, api.ErrClash}, {napp(nlam("y", clash), lost), one, api.ErrClash}, {with(napp(lost, clash), "x"), one, api.ErrMany}, {nmatch(lost, non(pany(), "", clash)), one, api.ErrMany}, {nmatch(clash, non(pany(), "a", lost), non(pany(), "a", bad)), one, api.ErrClash}, {nmatch(nn(0), non(pany(), "a", lost), non(pany(), "a", bad)), one, api.ErrNot},
		{nmatch(nmatch(nn(0), non(pany(), "a", lost)), non(pany(), "a", clash)), one, api.ErrNot},
		// Only then what is wrong in the term.
		{napp(nn(-1), lost), one, api.ErrNot}, {napp(bare(13), bad), one, api.ErrMany}, {napp(bare(13), nn(0)), one, api.ErrRange}, {bare(0), nil, api.ErrRange}, {nn(-1), nil, api.ErrRange}, {nn(1<<30 + 1), nil, api.ErrRange}, {nn(1 << 30), nil, api.OK}, {num(bare(api.Self), 7), nil, api.OK}, {num(bare(api.Self), 8), nil, api.ErrNot},
		{num(nlam("x", nn(0)), 1), nil, api.ErrClash}, {ref(nv("x"), x(1)), one, api.ErrClash}, {ref(nn(0), x(1)), nil, api.ErrClash}, {ref(bare(api.Def), x(1)), nil, api.OK}, {bare(api.Prim, nn(0), nn(0)), nil, api.ErrRange}, {num(bare(api.Do, nn(0)), 8), nil, api.ErrRange}, {num(bare(api.Con), 7), nil, api.OK}, {num(nhandle("a", nn(0), nn(0)), 1), nil, api.ErrClash},
		{term.Named{Kind: api.Nat, Cases: []term.NamedCase{non(pany(), "a", nn(0))}}, nil, api.ErrClash}, {nmatch(nn(0), non(api.Pattern{}, "", nn(0))), nil, api.ErrRange}, {nmatch(nn(0), non(api.Pattern{Kind: api.PAny, Kids: times(1, pany())}, "a b", nn(0))), nil, api.ErrMany}, {nmatch(nn(0), non(api.Pattern{Kind: api.PNat, Ref: x(1)}, "", nn(0))), nil, api.ErrClash},
		{term.Named{Kind: api.Lam, Names: one}, nil, api.ErrMany}, {term.Named{Kind: api.Var, Names: one, Kids: []term.Named{nn(0)}}, one, api.ErrMany}, {nhandle("", nn(0)), nil, api.ErrMany}, {nhandle(""), nil, api.ErrMany}, {nlet("x", nn(0), nn(0)), nil, api.OK}, {term.Named{Kind: api.Let, Names: one, Kids: times(1, nn(0))}, nil, api.ErrMany}, {term.Named{Kind: api.Let, Names: one, Kids: times(3, nn(0))}, nil, api.ErrMany}, {term.Named{Kind: api.Lam, Names: one, Kids: times(2, nn(0))}, nil, api.ErrMany},
		{nhandle(strings.Repeat("x ", 19), times(11, nn(0))...), nil, api.ErrMany}, {nhandle(strings.Repeat("x ", 17), times(10, nn(0))...), nil, api.OK}, {nmatch(nn(0), times(9, non(pany(), "a", nn(0)))...), nil, api.ErrMany}, {nmatch(nn(0), times(8, non(pany(), "a", nn(0)))...), nil, api.OK},
		// What is too long comes first.
		{nn(0), fronts(60), api.OK}, {nn(0), fronts(61), api.ErrLong}, {bad, fronts(61), api.ErrLong}, {nn(0), times(61, "x"), api.ErrLong}, {nv("x"), times(60, "x"), api.OK}, {deep, nil, api.ErrLong}, {nlams(59, nn(0)), nil, api.OK}, {napp(bad, nlams(59, nn(0))), nil, api.ErrLong}, {napp(bad, nlams(58, nn(0))), nil, api.ErrMany},
		{nmatch(bad, non(deepPattern(60), "", nn(0))), nil, api.ErrLong}, {nmatch(bad, non(deepPattern(59), "", nn(0))), nil, api.ErrMany}, {nmatch(bad, non(pany(), "a", nlams(59, nn(0)))), nil, api.ErrLong}, {nmatch(bad, non(pany(), "a", nlams(58, nn(0)))), nil, api.ErrMany}, {nmatch(nlams(59, bad)), nil, api.ErrLong}, {nmatch(nlams(58, bad)), nil, api.ErrMany},
		{nmatch(nn(0), non(deepPattern(60), "", nn(0))), nil, api.ErrLong}, {nmatch(nn(0), non(deepPattern(59), "", nn(0))), nil, api.OK}, {nmatch(nn(0), non(pany(), "a", nlams(59, nn(0)))), nil, api.ErrLong}, {bare(13, times(300, bad)...), nil, api.ErrLong}, {bare(13, times(299, bad)...), nil, api.ErrMany},
	} {
		got, e := term.Nameless(y.n, y.free)
		if e != y.want || e != api.OK && !same(got, api.Term{}) {
			t.Error(i, e, shown(got))
		}
	}
	for _, n := range []int{300, 301} {
		named, e := term.Name(sized(300), nil)
		if n == 301 {
			named = term.Named{Kind: api.Con, Kids: []term.Named{named}}
		}
		got, f := term.Nameless(named, nil)
		if e != api.OK || (f == api.OK) != (n == 300) || f != api.OK && (f != api.ErrLong || !same(got, api.Term{})) {
			t.Error(n, e, f)
		}
	}
}

// P0.1: terms with names that are in themselves.
func TestNamelessRound(t *testing.T) {
	u := nlam("x", nn(0))
	u.Kids[0] = u
	w := nmatch(nn(0), non(pany(), "x", nn(0)))
	w.Cases[0].Body = w
	p := pcon(x(1), 0, pany())
	p.Kids[0] = p
	q := term.Named{Kind: api.Nat, Cases: []term.NamedCase{non(pany(), "x", nn(0))}}
	q.Cases[0].Body = q
	for i, n := range []term.Named{u, w, nmatch(nn(0), non(p, "", nn(0)))} {
		if got, e := term.Nameless(n, nil); e != api.ErrLong || !same(got, api.Term{}) {
			t.Error(i, e)
		}
	}
	// Only the Bodies of a Match are parts.
	if got, e := term.Nameless(q, nil); e != api.ErrClash || !same(got, api.Term{}) {
		t.Error(e)
	}
}
