package decl_test

import (
	"reflect"
	"slices"
	"testing"

	"hoarstone/api"
	"hoarstone/decl"
)

// owned notes all memory that lists within values have, and tells a test if two of them share any.
type owned struct {
	t    *testing.T
	what string
	met  map[uintptr]bool
}

// add notes the memory of a value.
func (o owned) add(from reflect.Value) {
	switch from.Kind() {
	case reflect.Slice:
		// What stands behind the end of a list belongs to it, too.
		all := from.Slice(0, from.Cap())
		for i := range all.Len() {
			at := all.Index(i).Addr().Pointer()
			if o.met[at] {
				o.t.Errorf("%s: shared memory", o.what)
				return
			}
			o.met[at] = true
		}
		for i := range from.Len() {
			o.add(from.Index(i))
		}
	case reflect.Struct:
		for i := range from.NumField() {
			o.add(from.Field(i))
		}
	}
}

// spare returns a copy of a value whose lists have room behind their ends, also where they are empty.
func spare[T any](y T) T { return copied(reflect.ValueOf(y), 2).Interface().(T) }

// plain returns a copy of a value of which only what is in it counts.
func plain(y any) any { return copied(reflect.ValueOf(y), 0).Interface() }

// apart calls a function twice, and tells a test if it changes an argument, shares memory with it, shares some within its results, or returns something else for the second time.
func apart(t *testing.T, what string, call func() []any, args ...any) {
	t.Helper()
	var before []any
	for _, a := range args {
		before = append(before, plain(a))
	}
	got := call()
	o := owned{t, what, map[uintptr]bool{}}
	for _, a := range args {
		o.add(reflect.ValueOf(a))
	}
	for _, g := range got {
		o.add(reflect.ValueOf(g))
	}
	for i, a := range args {
		if !reflect.DeepEqual(plain(a), before[i]) {
			t.Errorf("%s: changed its argument %d", what, i)
		}
	}
	for i, again := range call() {
		if !reflect.DeepEqual(plain(again), plain(got[i])) {
			t.Errorf("%s: another result %d", what, i)
		}
	}
}

// two and three return the results of a call as a list.
func two[A, B any](a A, b B) []any           { return []any{a, b} }
func three[A, B, C any](a A, b B, c C) []any { return []any{a, b, c} }

// inWorld returns calls of all functions with a world, of a type, a group, an ability and a digest, by their names.
func inWorld(w api.World, u api.Type, l []api.Data, a api.Ability, s api.Sum, n int) map[string]func() []any {
	return map[string]func() []any{
		"CheckWorld": func() []any { return []any{decl.CheckWorld(w)} }, "CheckType": func() []any { return []any{decl.CheckType(w, u, n, n)} }, "CheckDatas": func() []any { return []any{decl.CheckDatas(w, l)} }, "CheckAbility": func() []any { return []any{decl.CheckAbility(w, a)} },
		"Data": func() []any { return two(decl.Data(w, s)) }, "Ability": func() []any { return two(decl.Ability(w, s)) }, "Fields": func() []any { return two(decl.Fields(w, u, n)) }, "Operation": func() []any { return two(decl.Operation(w, s, n)) }, "Reaches": func() []any { return two(decl.Reaches(w, s)) },
		"Inhabited": func() []any { return two(decl.Inhabited(w, u)) }, "FindCon": func() []any { return three(decl.FindCon(w, s)) }, "FindOp": func() []any { return three(decl.FindOp(w, s)) },
	}
}

// R4, R5: no function changes an argument, no result shares memory with one, or within itself; and nothing is kept.
func TestMemory(t *testing.T) {
	m := maker{Rand: seeded(25)}
	for range 150 {
		w := spare(m.world())
		m.w, m.vars, m.rows, m.params = w, 3, 3, []int{0, 1}
		u, l, a := spare(m.some(3)), spare(m.group(5)), spare(m.ability())
		refs := refsOf(w)
		for name, call := range inWorld(w, u, l, a, refs[m.IntN(len(refs))], m.IntN(3)) {
			apart(t, name, call, w, u, l, a)
		}
		k := w.Datas[m.IntN(len(w.Datas))]
		of := spare(data(k.Sum, times(k.Data.Params, u)...))
		for con := range k.Data.Cons {
			apart(t, "Fields", func() []any { return two(decl.Fields(w, of, con)) }, w, of)
		}
		types, rows := spare(fields(u, data(x(1), u, nat()), nat())), spare([]api.Row{m.row(), m.row(), row()})
		apart(t, "Put", func() []any { return two(decl.Put(u, types, rows)) }, u, types, rows)
		twice := spare(data(x(1), tv(0), tv(0), fun(tv(0), fun(nat(), nat(), open(0, x(3))), open(0))))
		apart(t, "Put twice", func() []any { return two(decl.Put(twice, types, rows)) }, twice, types, rows)
		apart(t, "Shape", func() []any { return []any{decl.Shape(u), decl.ShapeDatas(l), decl.ShapeAbility(a)} }, u, l, a)
		apart(t, "SameType", func() []any { return []any{decl.SameType(u, types[0]), decl.SameType(u, twice)} }, u, types, twice)
		apart(t, "Variables", func() []any { return three(decl.Variables(u)) }, u)
		apart(t, "Normal", func() []any { return two(decl.Normal(u)) }, u)
		y := spare(plainItem(u))
		apart(t, "TypeItem", func() []any { return two(decl.TypeItem(u)) }, u)
		apart(t, "FromItem", func() []any { return two(decl.FromItem(y)) }, y)
		if plainDatas(l) == api.OK {
			l = spare(crowd(m, l))
		}
		apart(t, "Alike", func() []any { return two(decl.Alike(l)) }, l)
		apart(t, "Parts", func() []any { return two(decl.Parts(l)) }, l)
		apart(t, "Code", func() []any { return two(decl.Code(l, 0)) }, l)
		apart(t, "Sums", func() []any { return two(decl.Sums(l)) }, l)
		apart(t, "Open", func() []any { return two(decl.Open(l)) }, l)
		apart(t, "AbilityCode", func() []any { return two(decl.AbilityCode(a)) }, a)
		apart(t, "AbilitySum", func() []any { return two(decl.AbilitySum(a)) }, a)
		code, _ := decl.Code(l, 0)
		b := spare(code)
		apart(t, "FromCode", func() []any { return two(decl.FromCode(b)) }, b)
		of2, _ := decl.AbilityCode(a)
		b = spare(of2)
		apart(t, "FromAbilityCode", func() []any { return two(decl.FromAbilityCode(b)) }, b)
	}
	// Parts that an argument has several times are there as often in a result, each in memory of its own.
	shared := fun(nat(), nat(), open(0, x(1)))
	for range 3 {
		shared = fun(shared, shared, open(0, x(1)))
	}
	d := cons(fields(fun(nat(), nat(), row(x(11)))), nil)
	d.Cons[1] = d.Cons[0]
	w := api.World{Datas: []api.KnownData{{Sum: x(1), Data: d}, {Sum: x(2), Data: d}}, Abilities: []api.KnownAbility{{Sum: x(11), Ability: ops(op(d.Cons[0][0], d.Cons[0][0]))}}}
	for what, got := range map[string][]any{
		"Put": two(decl.Put(shared, nil, []api.Row{open(0, x(2))})), "Normal": two(decl.Normal(shared)), "TypeItem": two(decl.TypeItem(shared)), "Data": two(decl.Data(w, x(1))), "Ability": two(decl.Ability(w, x(11))), "Operation": two(decl.Operation(w, x(11), 0)), "Open": two(decl.Open(group(d, d, with(1, d)))),
		"Put twice": two(decl.Put(data(x(1), tv(0), tv(0)), fields(shared.Kids[0]), nil)), "FromItem": two(decl.FromItem(plainItem(shared))),
	} {
		if got[1] != api.OK {
			t.Error(what, got[1])
		}
		owned{t, what, map[uintptr]bool{}}.add(reflect.ValueOf(got[0]))
	}
}

// wrongs tells a test if the results of a call are not an error with nothing else.
func wrongs(t *testing.T, what string, got []any, want api.Errno) {
	t.Helper()
	for i, g := range got {
		if i == len(got)-1 {
			if g != want {
				t.Errorf("%s: got %v, want %v", what, g, want)
			}
		} else if !reflect.DeepEqual(plain(g), reflect.Zero(reflect.TypeOf(g)).Interface()) {
			t.Errorf("%s: a result beside an error", what)
		}
	}
}

// P5.1, R1, R2: all functions with a world return the error of CheckWorld before all others, and nothing else; also of worlds whose types are in themselves (P0.1).
func TestErrorsOfWorlds(t *testing.T) {
	know := func(d api.Data) api.World { return api.World{Datas: []api.KnownData{{Sum: x(1), Data: d}}} }
	able := func(a api.Ability) api.World {
		return api.World{Datas: knownDatas(1, 1, cons()), Abilities: []api.KnownAbility{{Sum: x(11), Ability: a}}}
	}
	l := []api.World{
		{Terms: knownTerms(61, 1)}, {Datas: knownDatas(2, 1, cons()), Terms: knownTerms(1, 1)}, know(named("A", cons())), know(with(4, cons())), know(cons(fields(fun(nat(), nat(), row(x(2), x(1)))))), know(list(0)), know(cons(fields(data(x(9))))), know(cons(fields(data(x(1), nat())))), know(cons(fields(fun(nat(), nat(), row(x(1)))))),
		able(api.Ability{Unique: "A"}), able(ops(api.Op{})), able(ops(op(data(x(9)), nat()))), able(ops(op(nat(), data(x(1), nat())))), able(ops(op(nat(), fun(nat(), nat(), row(x(12)))))), able(ops(op(nat(), tv(0)))),
	}
	for _, u := range round() {
		l = append(l, know(cons(fields(u))), able(ops(op(nat(), u))))
	}
	met := map[api.Errno]bool{}
	for _, w := range l {
		want := plainWorld(w)
		met[want] = true
		if want == api.OK {
			t.Error("right")
		}
		for name, call := range inWorld(w, nat(), group(cons()), ops(), x(1), 0) {
			wrongs(t, name, call(), want)
		}
		for name, call := range inWorld(w, data(x(1)), group(cons(fields(data(x(1))))), ops(op(data(x(1)), nat())), x(11), 0) {
			wrongs(t, name, call(), want)
		}
		// Whatever else is wrong.
		for _, u := range []api.Type{{}, {Kind: api.TNat, Num: 1}, chain(61), self(0)} {
			for name, call := range inWorld(w, u, group(named("B", with(9, cons()))), api.Ability{Unique: "B"}, x(77), -1) {
				wrongs(t, name, call(), want)
			}
			for name, call := range inWorld(w, u, nil, ops(times(9, api.Op{})...), x(77), -1) {
				wrongs(t, name, call(), want)
			}
		}
	}
	for _, e := range []api.Errno{api.ErrMany, api.ErrTwice, api.ErrForm, api.ErrRange, api.ErrOrder, api.ErrNot} {
		if !met[e] {
			t.Error(e)
		}
	}
}

// R1, R2: functions with a type return the error of Shape behind that of the world, and before all others.
func TestErrorsOfShape(t *testing.T) {
	w := full()
	for _, u := range append(round(), api.Type{}, tv(1000), self(8, nat()), api.Type{Kind: api.TNat, Num: 1}, api.Type{Kind: api.TFun}, chain(61), fun(nat(), nat(), row(x(2), x(1))), fun(nat(), nat(), open(1000)), data(x(99), api.Type{Kind: api.TVar, Ref: x(1)}), data(x(2), fun(nat(), nat(), api.Row{Tail: 5}))) {
		want := plainShape(u)
		if want == api.OK {
			t.Error("right")
		}
		for what, got := range map[string][]any{
			"Shape": {decl.Shape(u)}, "CheckType": {decl.CheckType(w, u, 0, 0)}, "CheckType without numbers": {decl.CheckType(w, u, -1, 2000)}, "Fields": two(decl.Fields(w, u, 0)), "Fields of none": two(decl.Fields(w, u, -1)), "Inhabited": two(decl.Inhabited(w, u)),
			"Put": two(decl.Put(u, nil, nil)), "Put others": two(decl.Put(u, fields(api.Type{Kind: 7}, chain(70)), []api.Row{row(times(17, x(1))...)})), "Put it": two(decl.Put(tv(999), fields(u), []api.Row{row(times(17, x(1))...)})), "Variables": three(decl.Variables(u)), "Normal": two(decl.Normal(u)), "TypeItem": two(decl.TypeItem(u)),
		} {
			wrongs(t, what, got, want)
		}
		for what, got := range map[string][]any{
			"ShapeDatas": {decl.ShapeDatas(group(cons(fields(u))))}, "CheckDatas": {decl.CheckDatas(w, group(cons(fields(nat(), u), fields(tv(0)))))}, "Alike": two(decl.Alike(group(cons(fields(u))))), "Sums": two(decl.Sums(group(cons(), cons(fields(u))))), "ShapeAbility": {decl.ShapeAbility(ops(op(nat(), u)))}, "CheckAbility": {decl.CheckAbility(w, ops(op(nat(), u), op(tv(0), nat())))}, "AbilitySum": two(decl.AbilitySum(ops(op(u, tv(0))))),
		} {
			wrongs(t, what, got, want)
		}
	}
	// With an error there is nothing else.
	for what, got := range map[string][]any{
		"Data": two(decl.Data(w, x(99))), "Ability": two(decl.Ability(w, x(99))), "Operation": two(decl.Operation(w, x(99), 0)), "Reaches": two(decl.Reaches(w, x(99))), "Fields": two(decl.Fields(w, data(x(99)), 0)), "Put": two(decl.Put(tv(0), nil, nil)), "Inhabited": two(decl.Inhabited(w, self(0))), "Code": two(decl.Code(group(cons()), 1)),
	} {
		wrongs(t, what, got, api.ErrNot)
	}
	wrongs(t, "Put", two(decl.Put(data(x(1), tv(0)), fields(chain(60)), nil)), api.ErrFull)
	wrongs(t, "Fields", two(decl.Fields(w, nat(), 0)), api.ErrType)
	wrongs(t, "FindCon", three(decl.FindCon(w, x(1))), api.ErrNone)
	wrongs(t, "FindOp", three(decl.FindOp(w, x(1))), api.ErrNone)
	wrongs(t, "ConSum", two(decl.ConSum(x(1), 8)), api.ErrRange)
	wrongs(t, "OpSum", two(decl.OpSum(x(1), -1)), api.ErrRange)
}

// R3: empty lists are the same as none.
func TestEmptyLists(t *testing.T) {
	empty := api.World{Datas: []api.KnownData{}, Abilities: []api.KnownAbility{}, Terms: []api.KnownTerm{}}
	wants(t, "CheckWorld", decl.CheckWorld(empty), api.OK)
	wants(t, "ShapeDatas", decl.ShapeDatas([]api.Data{}), api.ErrMany)
	wants(t, "ShapeAbility", decl.ShapeAbility(api.Ability{Ops: []api.Op{}}), api.OK)
	l := group(api.Data{Cons: [][]api.Type{}}, api.Data{})
	firsts, e := decl.Alike(l)
	is(t, "Alike", firsts, []int{0, 0}, e, api.OK)
	l = group(api.Data{Cons: [][]api.Type{{}}}, api.Data{Cons: [][]api.Type{nil}}, cons(fields(fun(nat(), nat(), api.Row{List: []api.Sum{}}))), cons(fields(fun(api.Type{Kind: api.TNat, Kids: []api.Type{}}, nat(), row()))))
	firsts, e = decl.Alike(l)
	is(t, "Alike", firsts, []int{0, 0, 2, 2}, e, api.OK)
	if s := sums(t, l); s[0] != s[1] || s[2] != s[3] || !slices.Equal(s[:1], sums(t, group(cons(fields())))) {
		t.Error(s)
	}
	u, e := decl.Put(nat(), []api.Type{}, []api.Row{})
	is(t, "Put", u, nat(), e, api.OK)
}
