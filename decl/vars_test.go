package decl_test

import (
	"math"
	"slices"
	"testing"

	"hoarstone/api"
	"hoarstone/decl"
)

// own returns so many type variables, and row variables, by themselves.
func own(types, rows int) ([]api.Type, []api.Row) {
	var l []api.Type
	var r []api.Row
	for i := range types {
		l = append(l, tv(i))
	}
	for i := range rows {
		r = append(r, open(i))
	}
	return l, r
}

// P5.4: types and rows in the place of variables.
func TestPut(t *testing.T) {
	a, b, c := x(1), x(2), x(3)
	for i, y := range []struct {
		t     api.Type
		types []api.Type
		rows  []api.Row
		want  api.Type
		e     api.Errno
	}{
		{tv(0), fields(nat()), nil, nat(), api.OK}, {tv(1), fields(nat(), data(a, tv(3))), nil, data(a, tv(3)), api.OK}, {nat(), nil, nil, nat(), api.OK}, {nat(), fields(tv(0)), []api.Row{row(a)}, nat(), api.OK},
		{fun(tv(0), tv(1), open(0, a)), fields(nat(), nat()), []api.Row{open(5, a)}, fun(nat(), nat(), open(5, a, a)), api.OK},
		// All at once: what is put is not looked at again.
		{fun(tv(0), tv(1), row()), fields(tv(1), tv(0)), nil, fun(tv(1), tv(0), row()), api.OK}, {data(a, tv(0), tv(0)), fields(data(b, tv(0))), nil, data(a, data(b, tv(0)), data(b, tv(0))), api.OK}, {self(2, tv(0), self(3, tv(1))), fields(self(1), tv(7)), nil, self(2, self(1), self(3, tv(7))), api.OK},
		{fun(nat(), nat(), open(1)), nil, []api.Row{open(9, a), open(0, b)}, fun(nat(), nat(), open(0, b)), api.OK}, {fun(fun(nat(), tv(0), open(1, c)), nat(), open(0)), fields(fun(nat(), nat(), open(0, a))), []api.Row{open(1, b), row(a)}, fun(fun(nat(), fun(nat(), nat(), open(0, a)), row(a, c)), nat(), open(1, b)), api.OK},
		// Rows are joined as multisets, and closed by closed ones; what is closed stays.
		{fun(nat(), nat(), open(0, a, b, b)), nil, []api.Row{row(b, c)}, fun(nat(), nat(), row(a, b, b, b, c)), api.OK}, {fun(nat(), nat(), open(0, b)), nil, []api.Row{row(a, c)}, fun(nat(), nat(), row(a, b, c)), api.OK}, {fun(nat(), nat(), open(0)), nil, []api.Row{row()}, fun(nat(), nat(), row()), api.OK}, {fun(nat(), nat(), open(0)), nil, []api.Row{open(999, a, a)}, fun(nat(), nat(), open(999, a, a)), api.OK}, {fun(nat(), nat(), row(b)), nil, []api.Row{open(3, a)}, fun(nat(), nat(), row(b)), api.OK}, {fun(nat(), nat(), row()), nil, nil, fun(nat(), nat(), row()), api.OK}, {fun(nat(), nat(), open(0, b)), nil, []api.Row{open(0)}, fun(nat(), nat(), open(0, b)), api.OK},
		// A variable for which there is nothing.
		{tv(0), nil, []api.Row{row()}, api.Type{}, api.ErrNot}, {tv(1), fields(nat()), nil, api.Type{}, api.ErrNot}, {data(a, nat(), tv(999)), times(999, nat()), nil, api.Type{}, api.ErrNot}, {tv(999), times(1000, nat()), nil, nat(), api.OK}, {fun(nat(), nat(), open(0)), fields(nat()), nil, api.Type{}, api.ErrNot}, {fun(nat(), nat(), open(1)), nil, times(1, row()), api.Type{}, api.ErrNot}, {fun(nat(), nat(), open(999)), nil, times(999, row()), api.Type{}, api.ErrNot}, {fun(nat(), nat(), open(999)), nil, times(1000, row(a)), fun(nat(), nat(), row(a)), api.OK}, {fun(tv(0), nat(), open(0)), nil, times(1, row()), api.Type{}, api.ErrNot},
		// Too much of it.
		{data(a, tv(0)), fields(sized(59)), nil, data(a, sized(59)), api.OK}, {data(a, tv(0)), fields(sized(60)), nil, api.Type{}, api.ErrFull}, {fun(tv(0), tv(1), row()), fields(sized(29), sized(30)), nil, fun(sized(29), sized(30), row()), api.OK}, {fun(tv(0), tv(1), row()), fields(sized(30), sized(30)), nil, api.Type{}, api.ErrFull}, {nat(), fields(sized(60)), nil, nat(), api.OK}, {tv(0), fields(sized(60)), nil, sized(60), api.OK},
		{fun(nat(), nat(), open(0, times(8, a)...)), nil, []api.Row{row(times(8, b)...)}, fun(nat(), nat(), row(append(times(8, a), times(8, b)...)...)), api.OK}, {fun(nat(), nat(), open(0, times(8, a)...)), nil, []api.Row{row(times(9, b)...)}, api.Type{}, api.ErrFull}, {fun(nat(), nat(), open(0, a)), nil, []api.Row{row(times(16, a)...)}, api.Type{}, api.ErrFull}, {fun(nat(), nat(), row(a)), nil, []api.Row{row(times(16, a)...)}, fun(nat(), nat(), row(a)), api.OK}, {fun(nat(), nat(), open(0)), nil, []api.Row{row(times(16, a)...)}, fun(nat(), nat(), row(times(16, a)...)), api.OK}, {data(a, nat(), fun(nat(), nat(), open(0, times(16, a)...))), nil, []api.Row{row(a)}, api.Type{}, api.ErrFull},
		// In this order: those of t, of the types one after the other, of the rows one after the other, a variable for which there is nothing, too much.
		{tv(1000), fields(chain(61)), nil, api.Type{}, api.ErrRange}, {tv(5), fields(nat(), chain(61), api.Type{}), []api.Row{row(b, a)}, api.Type{}, api.ErrMany}, {tv(5), fields(nat(), api.Type{}, chain(61)), []api.Row{row(b, a)}, api.Type{}, api.ErrRange}, {tv(5), nil, []api.Row{{Tail: 1}, row(b, a)}, api.Type{}, api.ErrForm}, {tv(5), nil, []api.Row{row(b, a), {Tail: 1}}, api.Type{}, api.ErrOrder}, {tv(5), nil, []api.Row{open(0), open(1000)}, api.Type{}, api.ErrRange}, {nat(), fields(nat(), self(8)), nil, api.Type{}, api.ErrRange}, {nat(), nil, times(3, row(times(17, a)...)), api.Type{}, api.ErrMany},
		{data(a, tv(0), tv(1)), fields(sized(60)), nil, api.Type{}, api.ErrNot}, {fun(tv(0), nat(), open(0)), fields(sized(60)), nil, api.Type{}, api.ErrNot}, {fun(data(a, tv(0)), nat(), open(0, a)), fields(sized(60)), []api.Row{row(times(16, a)...)}, api.Type{}, api.ErrFull},
	} {
		u, e := decl.Put(y.t, y.types, y.rows)
		if is(t, "Put of "+shown(y.t), u, y.want, e, y.e); t.Failed() {
			t.Fatal(i)
		}
	}
	// Many in the place of many.
	u, e := decl.Put(data(a, times(3, data(a, times(3, tv(0))...))...), fields(data(a, times(3, data(a, times(3, tv(0))...))...)), nil)
	is(t, "Put", u, api.Type{}, e, api.ErrFull)
}

// plainVariables is Variables, by a list of all of them in order: a row variable has 1000 more.
func plainVariables(t api.Type) []int {
	var l []int
	add := func(more ...int) {
		for _, n := range more {
			if !slices.Contains(l, n) {
				l = append(l, n)
			}
		}
	}
	switch t.Kind {
	case api.TVar:
		add(t.Num)
	case api.TFun:
		add(plainVariables(t.Kids[0])...)
		if t.Row.Open {
			add(1000 + t.Row.Tail)
		}
		add(plainVariables(t.Kids[1])...)
	default:
		for _, kid := range t.Kids {
			add(plainVariables(kid)...)
		}
	}
	return l
}

// split returns type variables and row variables.
func split(l []int) (types, rows []int) {
	for _, n := range l {
		if n < 1000 {
			types = append(types, n)
		} else {
			rows = append(rows, n-1000)
		}
	}
	return types, rows
}

// P5.4: the variables, as they come up: a row's between what its function takes and what it gives.
func TestVariables(t *testing.T) {
	for _, y := range []struct {
		t           api.Type
		types, rows []int
	}{
		{nat(), nil, nil}, {tv(0), []int{0}, nil}, {tv(999), []int{999}, nil}, {fun(nat(), nat(), open(999)), nil, []int{999}}, {fun(nat(), nat(), row(x(1))), nil, nil},
		{fun(tv(3), tv(1), open(2)), []int{3, 1}, []int{2}}, {data(x(1), tv(2), tv(1), tv(2)), []int{2, 1}, nil}, {self(0, tv(4), self(1, tv(4), tv(0))), []int{4, 0}, nil},
		{fun(fun(nat(), nat(), open(5)), fun(nat(), nat(), open(3)), open(4)), nil, []int{5, 4, 3}}, {fun(fun(nat(), nat(), open(5)), fun(nat(), nat(), open(3)), row()), nil, []int{5, 3}}, {fun(fun(nat(), nat(), open(5)), fun(nat(), nat(), open(5)), open(5)), nil, []int{5}},
		{fun(fun(tv(1), fun(tv(2), tv(3), open(1)), open(2)), fun(fun(tv(1), tv(5), open(9)), tv(4), open(1)), open(3)), []int{1, 2, 3, 5, 4}, []int{2, 1, 3, 9}},
		{data(x(1), fun(tv(7), nat(), open(0)), fun(nat(), tv(6), open(7)), tv(5)), []int{7, 6, 5}, []int{0, 7}},
	} {
		types, rows, e := decl.Variables(y.t)
		is(t, "types", types, y.types, e, api.OK)
		is(t, "rows", rows, y.rows, e, api.OK)
	}
	r := seeded(4)
	for range 2000 {
		u := maker{r, api.World{}, 5, 5, []int{0, 1, 2, 3}}.some(4)
		if len(flat(u, 62)) > 60 {
			continue
		}
		types, rows, e := decl.Variables(u)
		wantTypes, wantRows := split(plainVariables(u))
		is(t, "types", types, wantTypes, e, api.OK)
		is(t, "rows", rows, wantRows, e, api.OK)
	}
}

// P5.4: schemes whose variables are numbered as they come up.
func TestNormal(t *testing.T) {
	for _, y := range []struct {
		t    api.Type
		want api.Scheme
	}{
		{nat(), api.Scheme{Type: nat()}}, {tv(5), api.Scheme{Vars: 1, Type: tv(0)}}, {fun(tv(3), fun(tv(1), tv(3), open(7)), open(7, x(1))), api.Scheme{Vars: 2, Rows: 1, Type: fun(tv(0), fun(tv(1), tv(0), open(0)), open(0, x(1)))}},
		{fun(fun(tv(9), nat(), open(5)), fun(nat(), tv(8), open(3)), open(4)), api.Scheme{Vars: 2, Rows: 3, Type: fun(fun(tv(0), nat(), open(0)), fun(nat(), tv(1), open(2)), open(1))}}, {fun(nat(), nat(), row(x(1))), api.Scheme{Type: fun(nat(), nat(), row(x(1)))}},
		{data(x(1), tv(1), tv(0), tv(1)), api.Scheme{Vars: 2, Type: data(x(1), tv(0), tv(1), tv(0))}}, {self(3, tv(999), data(x(1), tv(0))), api.Scheme{Vars: 2, Type: self(3, tv(0), data(x(1), tv(1)))}}, {fun(tv(0), tv(0), open(0)), api.Scheme{Vars: 1, Rows: 1, Type: fun(tv(0), tv(0), open(0))}},
	} {
		s, e := decl.Normal(y.t)
		is(t, "Normal", s, y.want, e, api.OK)
	}
	r := seeded(5)
	for range 2000 {
		u := maker{r, api.World{}, 999, 999, []int{0, 1, 2, 3}}.some(4)
		if len(flat(u, 62)) > 60 {
			continue
		}
		types, rows := split(plainVariables(u))
		// Each variable is replaced by the one whose number is its place.
		newTypes, newRows := own(1000, 1000)
		for i, n := range types {
			newTypes[n] = tv(i)
		}
		for i, n := range rows {
			newRows[n] = open(i)
		}
		s, e := decl.Normal(u)
		is(t, "Normal", s, api.Scheme{Vars: len(types), Rows: len(rows), Type: plainPut(u, newTypes, newRows)}, e, api.OK)
	}
}

// P5.4: the errors of Shape.
func TestVariablesErrors(t *testing.T) {
	for _, u := range append(round(), api.Type{}, tv(1000), tv(math.MinInt), api.Type{Kind: api.TFun}, sized(61), fun(nat(), nat(), row(x(2), x(1))), api.Type{Kind: api.TNat, Num: 1}, fun(nat(), nat(), open(-1))) {
		want := plainShape(u)
		types, rows, e := decl.Variables(u)
		is(t, "Variables", append(types, rows...), nil, e, want)
		s, e := decl.Normal(u)
		is(t, "Normal", s, api.Scheme{}, e, want)
		made, e := decl.Put(u, nil, nil)
		is(t, "Put", made, api.Type{}, e, want)
		made, e = decl.Put(tv(3), fields(nat(), u), nil)
		is(t, "Put", made, api.Type{}, e, want)
	}
}

// P5.4: what is put into types that are made.
func TestPutMade(t *testing.T) {
	r := seeded(6)
	met := map[api.Errno]int{}
	for range 4000 {
		m := maker{r, full(), 3, 3, []int{0, 1}}
		u := m.some(4)
		var types []api.Type
		var rows []api.Row
		for range 2 + r.IntN(2) {
			one := m.some(1 + r.IntN(3))
			if r.IntN(4) == 0 {
				one = sized(1 + r.IntN(60))
			}
			types, rows = append(types, one), append(rows, m.row())
		}
		if len(flat(u, 100)) > 60 {
			continue
		}
		want, e := api.Type{}, api.OK
		usedTypes, usedRows := split(plainVariables(u))
		switch {
		case slices.Contains(usedTypes, len(types)), slices.Contains(usedRows, len(rows)):
			e = api.ErrNot
		default:
			want = plainPut(u, types, rows)
			if len(flat(want, 100)) > 60 {
				want, e = api.Type{}, api.ErrFull
			}
		}
		met[e]++
		got, f := decl.Put(u, types, rows)
		is(t, "Put", got, want, f, e)
	}
	if met[api.OK] < 500 || met[api.ErrNot] < 100 || met[api.ErrFull] < 20 {
		t.Error(met)
	}
}
