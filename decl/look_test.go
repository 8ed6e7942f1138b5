package decl_test

import (
	"math"
	"slices"
	"testing"

	"hoarstone/api"
	"hoarstone/decl"
)

// P5.3: what a digest stands for, as a data type or as an ability.
func TestDataAndAbility(t *testing.T) {
	w := full()
	for i, k := range w.Datas {
		d, e := decl.Data(w, k.Sum)
		is(t, "Data", d, full().Datas[i].Data, e, api.OK)
		a, e := decl.Ability(w, k.Sum)
		is(t, "Ability", a, api.Ability{}, e, api.ErrNot)
	}
	for i, k := range w.Abilities {
		a, e := decl.Ability(w, k.Sum)
		is(t, "Ability", a, full().Abilities[i].Ability, e, api.OK)
		d, e := decl.Data(w, k.Sum)
		is(t, "Data", d, api.Data{}, e, api.ErrNot)
	}
	for _, ref := range []api.Sum{{}, x(9), x(21), {31: 1}} {
		d, e := decl.Data(w, ref)
		is(t, "Data", d, api.Data{}, e, api.ErrNot)
		a, e := decl.Ability(w, ref)
		is(t, "Ability", a, api.Ability{}, e, api.ErrNot)
	}
}

// P5.3: fields, with the arguments for the parameters.
func TestFields(t *testing.T) {
	w := full()
	fn := fun(nat(), self(3), open(7, x(9)))
	for i, y := range []struct {
		t    api.Type
		con  int
		want []api.Type
		e    api.Errno
	}{
		{data(x(2), nat()), 0, nil, api.OK}, {data(x(2), nat()), 1, fields(nat(), data(x(2), nat())), api.OK}, {data(x(2), nat()), 2, nil, api.ErrNot}, {data(x(2), nat()), -1, nil, api.ErrNot}, {data(x(2), nat()), math.MinInt, nil, api.ErrNot}, {data(x(2), nat()), math.MaxInt, nil, api.ErrNot},
		{data(x(3), tv(900), data(x(77))), 0, fields(tv(900), data(x(77))), api.OK}, {data(x(1)), 0, nil, api.OK}, {data(x(5)), 0, nil, api.ErrNot},
		{data(x(4), tv(5), fn, data(x(2), tv(0))), 0, fields(data(x(2), tv(0)), nat(), fun(tv(5), data(x(3), fn, data(x(2), nat())), row(x(11), x(11), x(12))), data(x(4), tv(5), fn, data(x(2), tv(0)))), api.OK},
		{data(x(4), nat(), nat(), nat()), 1, nil, api.OK}, {data(x(4), nat(), nat(), nat()), 2, fields(fun(nat(), nat(), row())), api.OK},
		{nat(), 0, nil, api.ErrType}, {tv(0), 0, nil, api.ErrType}, {self(0), 0, nil, api.ErrType}, {fun(nat(), nat(), row()), 0, nil, api.ErrType}, {nat(), 99, nil, api.ErrType},
		{data(x(9)), 0, nil, api.ErrNot}, {data(x(11)), 0, nil, api.ErrNot}, {data(x(21)), -1, nil, api.ErrNot}, {data(x(9), nat()), 0, nil, api.ErrNot}, {data(x(2)), 0, nil, api.ErrMany}, {data(x(2), nat(), nat()), 9, nil, api.ErrMany}, {data(x(1), nat()), -1, nil, api.ErrMany}, {data(x(5), nat()), 0, nil, api.ErrMany},
		{data(x(2), api.Type{}), 9, nil, api.ErrRange}, {api.Type{Kind: api.TData, Num: 1}, 0, nil, api.ErrForm}, {api.Type{Kind: api.TNat, Num: 1}, 0, nil, api.ErrForm}, {data(x(2), chain(60)), 1, nil, api.ErrMany}, {fun(nat(), nat(), row(x(2), x(1))), 0, nil, api.ErrOrder},
		// As many types in a field as there may be, and one more: the other fields do not matter.
		{data(x(2), chain(59)), 1, fields(chain(59), data(x(2), chain(59))), api.OK}, {data(x(4), chain(29), nat(), nat()), 0, fields(nat(), nat(), fun(chain(29), data(x(3), nat(), data(x(2), nat())), row(x(11), x(11), x(12))), data(x(4), chain(29), nat(), nat())), api.OK},
	} {
		l, e := decl.Fields(w, y.t, y.con)
		if is(t, "Fields of "+shown(y.t), l, y.want, e, y.e); t.Failed() {
			t.Fatal(i)
		}
	}
	// Each field is counted alone, and only those of the constructor that is asked for.
	wide := api.World{Datas: []api.KnownData{{Sum: x(1), Data: with(1, cons(fields(nat()), fields(nat(), data(x(2), data(x(2), tv(0), tv(0), tv(0)), tv(0), tv(0))), fields(tv(0), tv(0)), fields(fun(tv(0), nat(), row()))))}, {Sum: x(2), Data: with(3, cons())}}}
	for n, want := range map[int][]api.Errno{1: {0, 0, 0, 0}, 11: {0, 0, 0, 0}, 12: {0, api.ErrFull, 0, 0}, 58: {0, api.ErrFull, 0, 0}, 59: {0, api.ErrFull, 0, api.ErrFull}} {
		for con, e := range want {
			l, got := decl.Fields(wide, data(x(1), chain(n)), con)
			wants(t, "Fields", got, e)
			var types []api.Type
			for _, field := range wide.Datas[0].Data.Cons[con] {
				types = append(types, plainPut(field, fields(chain(n)), nil))
			}
			if e != api.OK {
				types = nil
			}
			is(t, "Fields", l, types, got, e)
		}
	}
}

// plainPut returns a type with types in the place of variables, and rows likewise.
func plainPut(t api.Type, types []api.Type, rows []api.Row) api.Type {
	if t.Kind == api.TVar {
		return types[t.Num]
	}
	u := api.Type{Kind: t.Kind, Num: t.Num, Ref: t.Ref, Row: t.Row}
	if t.Row.Open {
		u.Row = rows[t.Row.Tail]
		// One digest after the other is put before the first one that is greater.
		for _, a := range t.Row.List {
			i := 0
			for i < len(u.Row.List) && compare(u.Row.List[i], a) <= 0 {
				i++
			}
			u.Row.List = slices.Concat(u.Row.List[:i], []api.Sum{a}, u.Row.List[i:])
		}
	}
	for _, kid := range t.Kids {
		u.Kids = append(u.Kids, plainPut(kid, types, rows))
	}
	return u
}

// P5.3: what is looked up in worlds that are made.
func TestLookups(t *testing.T) {
	r := seeded(3)
	found := 0
	for range 1500 {
		w := maker{Rand: r}.world()
		m := maker{r, w, 3, 3, []int{0, 1}}
		for _, k := range w.Datas {
			d, e := decl.Data(w, k.Sum)
			is(t, "Data", d, k.Data, e, api.OK)
			var kids []api.Type
			for range k.Data.Params {
				kids = append(kids, m.some(2))
			}
			for con := range len(k.Data.Cons) + 1 {
				l, e := decl.Fields(w, data(k.Sum, kids...), con)
				if con == len(k.Data.Cons) {
					is(t, "Fields", l, nil, e, api.ErrNot)
					continue
				}
				var want []api.Type
				wantE := api.OK
				for _, field := range k.Data.Cons[con] {
					u := plainPut(field, kids, nil)
					want = append(want, u)
					if len(flat(u, 100)) > 60 {
						wantE = api.ErrFull
					}
				}
				if wantE != api.OK {
					want = nil
				}
				is(t, "Fields", l, want, e, wantE)
				found += len(l)
			}
			l, e := decl.Reaches(w, k.Sum)
			is(t, "Reaches", l, plainReaches(w, k.Sum), e, api.OK)
		}
		for _, k := range w.Abilities {
			a, e := decl.Ability(w, k.Sum)
			is(t, "Ability", a, k.Ability, e, api.OK)
			for i := range len(k.Ability.Ops) {
				o, e := decl.Operation(w, k.Sum, i)
				is(t, "Operation", o, k.Ability.Ops[i], e, api.OK)
			}
			o, e := decl.Operation(w, k.Sum, len(k.Ability.Ops))
			is(t, "Operation", o, api.Op{}, e, api.ErrNot)
		}
	}
	if found < 1000 {
		t.Error(found)
	}
}

// plainReaches is Reaches without its errors: all digests that are mentioned, of one data type after the other, of which those that came before are left out.
func plainReaches(w api.World, ref api.Sum) []api.Sum {
	l := []api.Sum{ref}
	for done := 0; done < len(l); done++ {
		d, _ := dataOf(w, l[done])
		for _, t := range all(fieldTypes([]api.Data{d})) {
			mentioned := t.Row.List
			if t.Kind == api.TData {
				mentioned = []api.Sum{t.Ref}
			}
			for _, m := range mentioned {
				if !slices.Contains(l, m) {
					l = append(l, m)
				}
			}
		}
	}
	return l
}

// P5.3: operations by their numbers.
func TestOperation(t *testing.T) {
	w := full()
	for _, y := range []struct {
		ref  api.Sum
		op   int
		want api.Op
		e    api.Errno
	}{
		{x(12), 0, op(nat(), data(x(1))), api.OK}, {x(12), 1, op(data(x(2), nat()), fun(nat(), nat(), row(x(11)))), api.OK}, {x(12), 2, api.Op{}, api.ErrNot}, {x(12), -1, api.Op{}, api.ErrNot}, {x(12), math.MaxInt, api.Op{}, api.ErrNot}, {x(12), math.MinInt, api.Op{}, api.ErrNot},
		{x(11), 0, op(nat(), nat()), api.OK}, {x(11), 1, api.Op{}, api.ErrNot}, {x(13), 0, api.Op{}, api.ErrNot}, {x(1), 0, api.Op{}, api.ErrNot}, {x(21), 0, api.Op{}, api.ErrNot}, {x(9), 0, api.Op{}, api.ErrNot}, {api.Sum{}, 0, api.Op{}, api.ErrNot},
	} {
		o, e := decl.Operation(w, y.ref, y.op)
		is(t, "Operation", o, y.want, e, y.e)
	}
}

// P5.3: what a data type is made of, in the order in which it comes up.
func TestReaches(t *testing.T) {
	w := full()
	for _, y := range []struct {
		ref  api.Sum
		want []api.Sum
		e    api.Errno
	}{
		{x(1), []api.Sum{x(1)}, api.OK}, {x(2), []api.Sum{x(2)}, api.OK}, {x(3), []api.Sum{x(3)}, api.OK}, {x(5), []api.Sum{x(5)}, api.OK}, {x(4), []api.Sum{x(4), x(11), x(12), x(3), x(2)}, api.OK},
		{x(11), nil, api.ErrNot}, {x(21), nil, api.ErrNot}, {x(9), nil, api.ErrNot}, {api.Sum{}, nil, api.ErrNot},
	} {
		l, e := decl.Reaches(w, y.ref)
		is(t, "Reaches", l, y.want, e, y.e)
	}
	// Of each data type all that it mentions comes before what that mentions; the List of a row before what its function takes and gives; what abilities mention does not come.
	deep := api.World{
		Datas: []api.KnownData{
			{Sum: x(1), Data: cons(fields(data(x(7)), data(x(3))), fields(fun(data(x(2)), data(x(9), data(x(4))), row(x(33), x(34), x(34)))), fields(data(x(6))))},
			{Sum: x(2), Data: cons(fields(data(x(8))))}, {Sum: x(3), Data: cons(fields(data(x(5)), data(x(1))))}, {Sum: x(4), Data: cons()}, {Sum: x(5), Data: cons(fields(data(x(3))))},
			{Sum: x(6), Data: cons()}, {Sum: x(7), Data: cons(fields(data(x(2))), fields(fun(nat(), data(x(10)), row(x(31)))))}, {Sum: x(8), Data: cons()}, {Sum: x(9), Data: with(1, cons())}, {Sum: x(10), Data: cons(fields(fun(nat(), nat(), row(x(35)))))}, {Sum: x(11), Data: cons()},
		},
		Abilities: []api.KnownAbility{{Sum: x(31)}, {Sum: x(32)}, {Sum: x(33), Ability: ops(op(data(x(11)), fun(nat(), nat(), row(x(32)))))}, {Sum: x(34)}, {Sum: x(35)}},
	}
	l, e := decl.Reaches(deep, x(1))
	is(t, "Reaches", l, []api.Sum{x(1), x(7), x(3), x(33), x(34), x(2), x(9), x(4), x(6), x(31), x(10), x(5), x(8), x(35)}, e, api.OK)
	l, e = decl.Reaches(deep, x(5))
	is(t, "Reaches", l, []api.Sum{x(5), x(3), x(1), x(7), x(33), x(34), x(2), x(9), x(4), x(6), x(31), x(10), x(8), x(35)}, e, api.OK)
	l, e = decl.Reaches(deep, x(8))
	is(t, "Reaches", l, []api.Sum{x(8)}, e, api.OK)
}

// P5.3: as many data types and abilities as there may be, in a ring.
func TestReachesMany(t *testing.T) {
	var w api.World
	var want []api.Sum
	for i := range 60 {
		next, a := x(byte(1+(i+1)%60)), x(byte(100+i))
		w.Datas = append(w.Datas, api.KnownData{Sum: x(byte(1 + i)), Data: cons(fields(data(next), fun(nat(), nat(), row(a))))})
		w.Abilities = append(w.Abilities, api.KnownAbility{Sum: a})
	}
	l, e := decl.Reaches(w, x(1))
	if e != api.OK || len(l) != 120 {
		t.Fatal(len(l), e)
	}
	want = []api.Sum{x(1), x(2), x(100), x(3), x(101)}
	if !slices.Equal(l[:5], want) || l[119] != x(159) {
		t.Error(l)
	}
}
