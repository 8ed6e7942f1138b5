package decl_test

import (
	"math"
	"slices"
	"testing"

	"hoarstone/api"
	"hoarstone/decl"
)

// zoo is types of the right shape, of all kinds, with each field at its limits.
func zoo() []api.Type {
	return []api.Type{
		tv(0), tv(999), nat(), self(0), self(7), self(3, nat()), self(3, nat(), tv(1), self(2)), data(api.Sum{}), data(x(1)), data(x(200), tv(5)), data(x(1), nat(), nat(), data(x(2), tv(7))),
		fun(nat(), nat(), row()), fun(tv(3), self(1), row(x(1))), fun(nat(), nat(), row(times(16, x(1))...)), fun(nat(), nat(), row(api.Sum{}, api.Sum{}, x(1), x(2), x(2), x(9))),
		fun(nat(), nat(), open(0)), fun(nat(), nat(), open(999)), fun(tv(1), fun(tv(0), tv(1), open(4, x(3))), open(5, x(1), x(1))), fun(fun(tv(9), tv(8), open(7)), fun(tv(6), tv(9), open(7)), open(2)),
		sized(60), chain(60), data(x(3), fun(data(x(2), nat()), data(x(4)), row(x(11))), nat()),
	}
}

// shaped tells a test of an error of Shape that is not the one that it should be.
func shaped(t *testing.T, what string, u api.Type, want api.Errno) {
	t.Helper()
	if e := decl.Shape(u); e != want {
		t.Errorf("%s: %.300s: got %v, want %v", what, shown(u), e, want)
	}
}

// P5.1: each kind with its fields at their limits, and one beyond.
func TestShapeKinds(t *testing.T) {
	for _, u := range zoo() {
		shaped(t, "right", u, api.OK)
	}
	for i, y := range []struct {
		t    api.Type
		want api.Errno
	}{
		{api.Type{}, api.ErrRange}, {api.Type{Kind: -1}, api.ErrRange}, {api.Type{Kind: 6}, api.ErrRange}, {api.Type{Kind: 22}, api.ErrRange}, {api.Type{Kind: math.MinInt}, api.ErrRange}, {api.Type{Kind: math.MaxInt}, api.ErrRange},
		{tv(-1), api.ErrRange}, {tv(1000), api.ErrRange}, {tv(math.MinInt), api.ErrRange}, {tv(math.MaxInt), api.ErrRange},
		{self(-1), api.ErrRange}, {self(8), api.ErrRange}, {self(math.MinInt), api.ErrRange}, {self(math.MaxInt), api.ErrRange},
		{api.Type{Kind: api.TFun}, api.ErrMany}, {api.Type{Kind: api.TFun, Kids: times(1, nat())}, api.ErrMany}, {api.Type{Kind: api.TFun, Kids: times(3, nat())}, api.ErrMany},
		{data(x(1), times(3, nat())...), api.OK}, {data(x(1), times(4, nat())...), api.ErrMany}, {self(0, times(3, nat())...), api.OK}, {self(0, times(4, nat())...), api.ErrMany},
	} {
		shaped(t, "kind", y.t, y.want)
		if e := decl.Shape(data(x(1), y.t)); e != y.want {
			t.Error(i, "within", e)
		}
	}
}

// P5.1: a field that a kind does not have is zero, or empty.
func TestShapeFields(t *testing.T) {
	has := map[int]string{api.TVar: "n", api.TSelf: "nk", api.TData: "rk", api.TFun: "kw", api.TNat: ""}
	for _, base := range []api.Type{tv(1), nat(), fun(nat(), nat(), row()), data(x(1)), self(1)} {
		for field, change := range map[byte][]func(u *api.Type){
			'n': {func(u *api.Type) { u.Num = 2 }},
			'r': {func(u *api.Type) { u.Ref = api.Sum{31: 1} }, func(u *api.Type) { u.Ref = api.Sum{1} }},
			'k': {func(u *api.Type) { u.Kids = times(2, nat()) }},
			'w': {func(u *api.Type) { u.Row = row(x(1)) }, func(u *api.Type) { u.Row = open(0) }, func(u *api.Type) { u.Row = open(3) }, func(u *api.Type) { u.Row = open(3, x(1)) }},
		} {
			want := api.ErrForm
			if slices.Contains([]byte(has[base.Kind]), field) {
				want = api.OK
			}
			for _, c := range change {
				u := cut(base)
				c(&u)
				shaped(t, "with "+string(field), u, want)
			}
		}
		// A list that is empty is nothing; a Tail without Open is wrong everywhere, also a negative one.
		base.Kids, base.Row.List = append([]api.Type{}, base.Kids...), []api.Sum{}
		shaped(t, "empty", base, api.OK)
		for _, tail := range []int{1, -1, 1000, math.MinInt} {
			base.Row.Tail = tail
			shaped(t, "a Tail", base, api.ErrForm)
		}
		base.Row.Tail, base.Num = 0, -1
		if !slices.Contains([]byte(has[base.Kind]), 'n') {
			shaped(t, "Num", base, api.ErrForm)
		}
	}
	for _, kind := range []int{api.TVar, api.TNat} {
		shaped(t, "a Kid", api.Type{Kind: kind, Kids: times(1, nat())}, api.ErrForm)
		shaped(t, "four Kids", api.Type{Kind: kind, Kids: times(4, nat())}, api.ErrForm)
	}
}

// P5.1: rows that are too long, do not rise, or have a Tail that is none.
func TestShapeRows(t *testing.T) {
	last := api.Sum{31: 1}
	for i, y := range []struct {
		r    api.Row
		want api.Errno
	}{
		{row(), api.OK}, {row(x(1)), api.OK}, {row(x(1), x(1)), api.OK}, {row(x(1), x(2), x(3)), api.OK}, {row(x(2), x(1)), api.ErrOrder}, {row(x(1), x(3), x(2)), api.ErrOrder}, {row(x(1), x(2), x(1)), api.ErrOrder}, {row(x(1), api.Sum{}), api.ErrOrder},
		{row(api.Sum{}, last), api.OK}, {row(last, api.Sum{}), api.ErrOrder}, {row(api.Sum{1}, api.Sum{1, 31: 1}), api.OK}, {row(api.Sum{1, 31: 1}, api.Sum{1}), api.ErrOrder}, {row(api.Sum{127}, api.Sum{128}), api.OK}, {row(api.Sum{128}, api.Sum{127}), api.ErrOrder},
		{row(times(16, x(1))...), api.OK}, {row(times(17, x(1))...), api.ErrMany}, {open(5, times(16, x(1))...), api.OK}, {open(5, times(17, x(1))...), api.ErrMany},
		{open(0), api.OK}, {open(999), api.OK}, {open(1000), api.ErrRange}, {open(-1), api.ErrRange}, {open(math.MinInt), api.ErrRange}, {open(math.MaxInt), api.ErrRange}, {open(999, x(1), x(2)), api.OK},
		{api.Row{Tail: 1}, api.ErrForm}, {api.Row{Tail: -1}, api.ErrForm}, {api.Row{Tail: 1000}, api.ErrForm}, {api.Row{List: []api.Sum{x(1)}, Tail: 3}, api.ErrForm},
		// Several are wrong.
		{api.Row{List: append(times(16, x(2)), x(1)), Open: true, Tail: -1}, api.ErrMany}, {open(-1, x(2), x(1)), api.ErrOrder}, {api.Row{List: []api.Sum{x(2), x(1)}, Tail: 5}, api.ErrOrder}, {api.Row{List: times(17, x(1)), Tail: 5}, api.ErrMany},
	} {
		u := fun(nat(), nat(), y.r)
		shaped(t, "row", u, y.want)
		shaped(t, "row within", self(0, nat(), u), y.want)
		if e := plainRow(y.r); e != y.want {
			t.Error(i, e)
		}
		// Put has the same errors for rows.
		if _, e := decl.Put(nat(), nil, []api.Row{row(), y.r}); e != y.want {
			t.Error(i, "Put", e)
		}
	}
}

// P5.1: of several errors of one type the first one in order, and of several types the first one that has any; a type comes before those in it.
func TestShapeOrder(t *testing.T) {
	bad := api.Type{}
	form, many, order := api.Type{Kind: api.TNat, Num: 1}, api.Type{Kind: api.TFun, Kids: times(1, nat())}, fun(nat(), nat(), row(x(2), x(1)))
	for _, y := range []struct {
		t    api.Type
		want api.Errno
	}{
		{api.Type{Kind: 6, Num: 1, Ref: x(1), Kids: times(9, bad), Row: open(-1)}, api.ErrRange}, {api.Type{Kind: api.TVar, Num: -1, Ref: x(1)}, api.ErrRange}, {api.Type{Kind: api.TSelf, Num: 8, Ref: x(1), Kids: times(4, nat())}, api.ErrRange},
		{api.Type{Kind: api.TFun, Num: 1, Kids: times(3, nat())}, api.ErrForm}, {api.Type{Kind: api.TData, Num: 1, Kids: times(4, nat())}, api.ErrForm}, {api.Type{Kind: api.TSelf, Row: open(0), Kids: times(4, nat())}, api.ErrForm}, {api.Type{Kind: api.TFun, Ref: x(1), Row: row(x(2), x(1)), Kids: times(2, nat())}, api.ErrForm},
		{api.Type{Kind: api.TFun, Row: row(x(2), x(1))}, api.ErrMany}, {api.Type{Kind: api.TFun, Row: open(-1)}, api.ErrMany}, {api.Type{Kind: api.TFun, Kids: times(2, bad), Row: api.Row{Tail: 1}}, api.ErrForm}, {api.Type{Kind: api.TFun, Kids: times(2, bad), Row: row(times(17, x(1))...)}, api.ErrMany},
		{fun(form, bad, row()), api.ErrForm}, {fun(nat(), bad, row()), api.ErrRange}, {fun(many, form, row()), api.ErrMany}, {fun(many, form, row(x(2), x(1))), api.ErrOrder}, {fun(bad, form, open(1000)), api.ErrRange}, {fun(form, bad, api.Row{Tail: 1}), api.ErrForm},
		{data(x(1), data(x(2), nat(), order), bad), api.ErrOrder}, {data(x(1), nat(), many, order), api.ErrMany}, {self(0, self(8), many), api.ErrRange}, {self(0, self(7, form), self(8)), api.ErrForm}, {data(x(1), form, bad, many, bad), api.ErrMany}, {api.Type{Kind: api.TNat, Kids: times(1, bad)}, api.ErrForm}, {data(x(1), tv(1000), form), api.ErrRange},
		{data(x(1), form, tv(-1)), api.ErrForm},
	} {
		shaped(t, "order", y.t, y.want)
	}
}

// P5.1: as many types as there may be, and one more; this is asked before all else, and types that are in themselves have too many.
func TestShapeMany(t *testing.T) {
	bad := api.Type{Kind: 9}
	for _, n := range []int{1, 2, 59, 60, 61, 62, 500} {
		want := api.OK
		if n > 60 {
			want = api.ErrMany
		}
		shaped(t, "sized", sized(n), want)
		shaped(t, "chain", chain(n), want)
	}
	for _, u := range []api.Type{{Kind: 9, Kids: times(60, nat())}, {Kind: 9, Kids: []api.Type{sized(60)}}, fun(bad, sized(59), row()), fun(sized(59), bad, row()), {Kind: api.TNat, Num: -1, Kids: times(100000, nat())}} {
		shaped(t, "many", u, api.ErrMany)
	}
	shaped(t, "just few enough", api.Type{Kind: 9, Kids: times(59, nat())}, api.ErrRange)
	shaped(t, "just few enough", fun(sized(58), bad, row()), api.ErrRange)
	for _, u := range round() {
		shaped(t, "round", u, api.ErrMany)
	}
}

// spoil changes something in a type, or in one in it.
func spoil(r interface{ IntN(int) int }, u *api.Type) {
	if len(u.Kids) > 0 && r.IntN(3) > 0 {
		spoil(r, &u.Kids[r.IntN(len(u.Kids))])
		return
	}
	switch r.IntN(9) {
	case 0:
		u.Num += r.IntN(5) - 2
	case 1:
		u.Kind = r.IntN(7)
	case 2:
		u.Ref = x(byte(r.IntN(30)))
	case 3:
		u.Kids = append(u.Kids, times(1+r.IntN(3), nat())...)
	case 4:
		u.Kids = u.Kids[:len(u.Kids)/2]
	case 5:
		u.Row.Open = !u.Row.Open
	case 6:
		u.Row.Tail = []int{-1, 0, 1, 999, 1000}[r.IntN(5)]
	case 7:
		u.Row.List = append(u.Row.List, x(byte(r.IntN(60))))
	case 8:
		u.Num = []int{-1, 0, 7, 8, 999, 1000}[r.IntN(6)]
	}
}

// P5.1: Shape and CheckType are what the chapter says, whatever is spoiled in a type.
func TestShapeSpoiled(t *testing.T) {
	r := seeded(1)
	met, metType := map[api.Errno]int{}, map[api.Errno]int{}
	for range 3000 {
		w := maker{Rand: r}.world()
		m := maker{r, w, r.IntN(3), r.IntN(3), []int{0, 1, 3}[:r.IntN(2)*3]}
		u := m.some(1 + r.IntN(4))
		if len(flat(u, 100)) > 60 {
			continue
		}
		shaped(t, "made", u, api.OK)
		for range r.IntN(4) {
			spoil(r, &u)
		}
		want := plainShape(u)
		met[want]++
		shaped(t, "spoiled", u, want)
		vars, rows := r.IntN(4), r.IntN(4)
		want = plainType(w, u, vars, rows)
		metType[want]++
		if e := decl.CheckType(w, u, vars, rows); e != want {
			t.Errorf("CheckType of %s with %d, %d: got %v, want %v", shown(u), vars, rows, e, want)
		}
	}
	for _, e := range []api.Errno{api.OK, api.ErrRange, api.ErrForm, api.ErrMany} {
		if met[e] < 50 {
			t.Error(e, met[e])
		}
	}
	for _, e := range []api.Errno{api.OK, api.ErrNot, api.ErrMany} {
		if metType[e] < 50 {
			t.Error(e, metType[e])
		}
	}
}

// P5.1: a type in a world, with as many variables as there are.
func TestCheckType(t *testing.T) {
	w := full()
	for i, y := range []struct {
		t          api.Type
		vars, rows int
		want       api.Errno
	}{
		{tv(0), 0, 0, api.ErrNot}, {tv(0), 1, 0, api.OK}, {tv(999), 1000, 0, api.OK}, {tv(999), 999, 1000, api.ErrNot}, {tv(2), 2, 1000, api.ErrNot},
		{self(0), 1000, 1000, api.ErrNot}, {data(x(2), self(0)), 1000, 1000, api.ErrNot},
		{nat(), 0, 0, api.OK}, {nat(), -1, 0, api.ErrRange}, {nat(), 0, -1, api.ErrRange}, {nat(), 1001, 0, api.ErrRange}, {nat(), 0, 1001, api.ErrRange}, {nat(), 1000, 1000, api.OK}, {nat(), math.MinInt, math.MaxInt, api.ErrRange},
		{data(x(1)), 0, 0, api.OK}, {data(x(5)), 0, 0, api.OK}, {data(x(1), nat()), 0, 0, api.ErrMany}, {data(x(2)), 0, 0, api.ErrMany}, {data(x(2), nat()), 0, 0, api.OK}, {data(x(2), nat(), nat()), 0, 0, api.ErrMany}, {data(x(3), nat(), nat()), 0, 0, api.OK}, {data(x(3), nat()), 0, 0, api.ErrMany}, {data(x(4), nat(), nat(), nat()), 0, 0, api.OK}, {data(x(4), nat(), nat()), 0, 0, api.ErrMany},
		{data(x(9)), 0, 0, api.ErrNot}, {data(x(11)), 0, 0, api.ErrNot}, {data(x(21)), 0, 0, api.ErrNot}, {data(api.Sum{}), 0, 0, api.ErrNot}, {data(x(9), nat(), nat()), 0, 0, api.ErrNot},
		{fun(nat(), nat(), row(x(11), x(11), x(12), x(13))), 0, 0, api.OK}, {fun(nat(), nat(), row(x(1))), 0, 0, api.ErrNot}, {fun(nat(), nat(), row(x(21))), 0, 0, api.ErrNot}, {fun(nat(), nat(), row(x(11), x(14))), 0, 0, api.ErrNot}, {fun(nat(), nat(), row(x(10), x(11))), 0, 0, api.ErrNot},
		{fun(nat(), nat(), open(0)), 0, 0, api.ErrNot}, {fun(nat(), nat(), open(0)), 1000, 0, api.ErrNot}, {fun(nat(), nat(), open(0)), 0, 1, api.OK}, {fun(nat(), nat(), open(999, x(11))), 0, 1000, api.OK}, {fun(nat(), nat(), open(999)), 0, 999, api.ErrNot},
		// The first type that is wrong decides.
		{fun(tv(0), data(x(1), nat()), row()), 0, 0, api.ErrNot}, {fun(data(x(1), nat()), tv(0), row()), 0, 0, api.ErrMany}, {fun(data(x(1), nat()), tv(0), row(x(9))), 0, 0, api.ErrNot}, {fun(data(x(1), nat()), nat(), open(3)), 0, 3, api.ErrNot}, {data(x(3), data(x(2)), self(0)), 0, 0, api.ErrMany}, {data(x(2), self(0), data(x(2))), 0, 0, api.ErrMany},
		// Shape, and then the numbers of variables, come before.
		{fun(tv(0), api.Type{Kind: api.TNat, Num: 1}, row(x(9))), -1, -1, api.ErrForm}, {tv(5), 0, -1, api.ErrRange}, {data(x(9)), 1001, 0, api.ErrRange}, {fun(nat(), nat(), row(times(17, x(9))...)), -1, 0, api.ErrMany}, {tv(1000), 1000, 0, api.ErrRange}, {self(8), 0, 0, api.ErrRange},
	} {
		if e := decl.CheckType(w, y.t, y.vars, y.rows); e != y.want {
			t.Errorf("%d: %s: got %v, want %v", i, shown(y.t), e, y.want)
		}
		if want := plainType(w, y.t, y.vars, y.rows); want != y.want {
			t.Error(i, want)
		}
	}
	if e := decl.CheckType(api.World{}, fun(tv(3), nat(), open(2)), 4, 3); e != api.OK {
		t.Error(e)
	}
}

// P5.1: SameType looks at each field, of whatever types, also of those that are in themselves.
func TestSameType(t *testing.T) {
	base := api.Type{Kind: 3, Num: 6, Ref: x(7), Kids: []api.Type{data(x(8), tv(1)), nat()}, Row: api.Row{List: []api.Sum{x(1), x(2)}, Open: true, Tail: 5}}
	for i, change := range []func(u *api.Type){
		func(u *api.Type) { u.Kind++ }, func(u *api.Type) { u.Num++ }, func(u *api.Type) { u.Ref[31]++ }, func(u *api.Type) { u.Ref[0]++ }, func(u *api.Type) { u.Kids = u.Kids[:1] }, func(u *api.Type) { u.Kids[0], u.Kids[1] = u.Kids[1], u.Kids[0] }, func(u *api.Type) { u.Kids = nil },
		func(u *api.Type) { u.Row.Open = false }, func(u *api.Type) { u.Row.Tail++ }, func(u *api.Type) { u.Row.List = u.Row.List[:1] }, func(u *api.Type) { u.Row.List = nil }, func(u *api.Type) { u.Row.List[1][31]++ }, func(u *api.Type) { u.Row.List[0], u.Row.List[1] = u.Row.List[1], u.Row.List[0] },
		func(u *api.Type) { u.Kids[0].Kids[0].Num++ }, func(u *api.Type) { u.Kids[0].Ref[3]++ }, func(u *api.Type) { u.Kids[1].Row.Tail++ }, func(u *api.Type) { u.Kids[1].Kids = times(1, api.Type{}) }, func(u *api.Type) { u.Kids[1].Row.List = times(1, x(0)) },
	} {
		u := cut(base)
		if !decl.SameType(u, base) {
			t.Error(i)
		}
		change(&u)
		if decl.SameType(u, base) || decl.SameType(base, u) || decl.SameType(data(x(1), nat(), u), data(x(1), nat(), base)) {
			t.Error(i)
		}
	}
	// Empty lists are the same as none.
	if !decl.SameType(api.Type{}, api.Type{Kids: []api.Type{}, Row: api.Row{List: []api.Sum{}}}) || decl.SameType(api.Type{}, nat()) {
		t.Error("empty")
	}
	// Lists that begin at the same place can be of other lengths.
	kids := []api.Type{tv(1), tv(2)}
	others := []api.Type{tv(1), tv(9)}
	if decl.SameType(api.Type{Kids: []api.Type{{Kids: kids[:1]}, {Kids: kids}}}, api.Type{Kids: []api.Type{{Kids: others[:1]}, {Kids: others}}}) {
		t.Error("a longer list")
	}
	l := append(zoo(), sized(500), chain(5000), api.Type{Kind: -7, Num: math.MinInt})
	for i, a := range l {
		for j, b := range l {
			if got := decl.SameType(a, cut(b)); got != (i == j) {
				t.Error(shown(a), shown(b), got)
			}
		}
	}
	a, b := round(), round()
	for i := range a {
		for j := range b {
			if decl.SameType(a[i], b[j]) != (i == j) || !decl.SameType(a[i], a[i]) {
				t.Error("round", i, j)
			}
		}
		if decl.SameType(a[i], chain(100)) || decl.SameType(chain(100), a[i]) || !decl.SameType(a[i].Kids[0], cut2(b[i]).Kids[0]) {
			t.Error("round", i)
		}
	}
	if !decl.SameType(data(x(1), a[0]), b[0]) {
		t.Error("unrolled")
	}
	u, v := nat(), nat()
	for range 100 {
		u, v = fun(u, u, row()), fun(v, v, row())
	}
	if !decl.SameType(u, v) || decl.SameType(u, fun(v, v, row())) {
		t.Error("shared")
	}
}

// cut2 returns a type with a copy of its Kids, which may be in themselves.
func cut2(u api.Type) api.Type {
	u.Kids = slices.Clone(u.Kids)
	return u
}
