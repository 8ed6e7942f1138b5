package decl_test

import (
	"cmp"
	"math/rand/v2"
	"reflect"
	"slices"
	"strconv"
	"strings"
	"testing"

	"hoarstone/api"
	"hoarstone/decl"
)

// x returns a digest; they rise with their numbers.
func x(n byte) api.Sum { return api.Sum{n, 31: n} }

func tv(n int) api.Type { return api.Type{Kind: api.TVar, Num: n} }
func nat() api.Type     { return api.Type{Kind: api.TNat} }
func fun(from, to api.Type, r api.Row) api.Type {
	return api.Type{Kind: api.TFun, Kids: []api.Type{from, to}, Row: r}
}
func data(ref api.Sum, kids ...api.Type) api.Type {
	return api.Type{Kind: api.TData, Ref: ref, Kids: kids}
}
func self(n int, kids ...api.Type) api.Type {
	return api.Type{Kind: api.TSelf, Num: n, Kids: kids}
}
func row(l ...api.Sum) api.Row { return api.Row{List: l} }
func open(tail int, l ...api.Sum) api.Row {
	return api.Row{List: l, Open: true, Tail: tail}
}

// fields are those of a constructor, cons the constructors of a data type without parameters.
func fields(l ...api.Type) []api.Type        { return l }
func cons(l ...[]api.Type) api.Data          { return api.Data{Cons: l} }
func with(params int, d api.Data) api.Data   { d.Params = params; return d }
func named(name string, d api.Data) api.Data { d.Unique = name; return d }
func group(l ...api.Data) []api.Data         { return l }
func op(from, to api.Type) api.Op            { return api.Op{From: from, To: to} }
func ops(l ...api.Op) api.Ability            { return api.Ability{Ops: l} }

// list is the data type of lists, in which the member of a number is itself.
func list(n int) api.Data { return with(1, cons(fields(), fields(tv(0), self(n, tv(0))))) }

// times returns a list of the same element.
func times[T any](n int, one T) []T { return slices.Repeat([]T{one}, n) }

// sized returns a type of so many types, of which half are functions.
func sized(n int) api.Type {
	switch n {
	case 1:
		return nat()
	case 2:
		return data(x(1), nat())
	}
	left := (n - 1) / 2
	return fun(sized(left), sized(n-1-left), row())
}

// chain returns a type of so many types, each of which has but one in it.
func chain(n int) api.Type {
	t := nat()
	for range n - 1 {
		t = data(x(1), t)
	}
	return t
}

// round returns types that are in themselves.
func round() []api.Type {
	one := data(x(1), nat())
	one.Kids[0] = one
	two := fun(nat(), nat(), row())
	two.Kids[0], two.Kids[1] = two, two
	none := api.Type{Kind: 9, Kids: []api.Type{{}}}
	none.Kids[0] = none
	late := fun(nat(), nat(), row())
	late.Kids[1] = self(0, late, nat())
	late.Kids[1].Kids[0] = late
	return []api.Type{one, two, none, late}
}

// full is a world with data types of 0 to 3 parameters, abilities and definitions: x(1) is Unit, x(2) lists, x(3) pairs, x(4) has all kinds of types; x(5) has no constructors; x(11) and x(12) are abilities, x(21) is a definition.
func full() api.World {
	return api.World{
		Datas: []api.KnownData{
			{Sum: x(4), Data: named("all", with(3, cons(fields(tv(2), nat(), fun(tv(0), data(x(3), tv(1), data(x(2), nat())), row(x(11), x(11), x(12))), data(x(4), tv(0), tv(1), tv(2))), fields(), fields(fun(nat(), nat(), row())))))},
			{Sum: x(1), Data: cons(fields())},
			{Sum: x(2), Data: with(1, cons(fields(), fields(tv(0), data(x(2), tv(0)))))},
			{Sum: x(3), Data: with(2, cons(fields(tv(0), tv(1))))},
			{Sum: x(5), Data: api.Data{}},
		},
		Abilities: []api.KnownAbility{
			{Sum: x(12), Ability: api.Ability{Unique: "st", Ops: []api.Op{op(nat(), data(x(1))), op(data(x(2), nat()), fun(nat(), nat(), row(x(11))))}}},
			{Sum: x(11), Ability: ops(op(nat(), nat()))},
			{Sum: x(13), Ability: api.Ability{}},
		},
		Terms: []api.KnownTerm{{Sum: x(21), Body: api.Term{Kind: 99}}},
	}
}

// seeded returns numbers that hang on the seed alone.
func seeded(n uint64) *rand.Rand { return rand.New(rand.NewPCG(n, 5)) }

// maker makes types that are right in a world: with variables, row variables and members that there are.
type maker struct {
	*rand.Rand
	w          api.World
	vars, rows int
	params     []int // of the members
}

// some returns a type of at most so many levels.
func (m maker) some(levels int) api.Type {
	kids := func(n int) []api.Type {
		var l []api.Type
		for range n {
			l = append(l, m.some(levels-1))
		}
		return l
	}
	switch k := m.IntN(8); {
	case k < 2 && m.vars > 0:
		return tv(m.IntN(m.vars))
	case levels < 2 || k < 3:
		return nat()
	case k == 3:
		return fun(m.some(levels-1), m.some(levels-1), m.row())
	case k < 6 && len(m.params) > 0:
		n := m.IntN(len(m.params))
		return self(n, kids(m.params[n])...)
	case len(m.w.Datas) > 0:
		d := m.w.Datas[m.IntN(len(m.w.Datas))]
		return data(d.Sum, kids(d.Data.Params)...)
	}
	return nat()
}

// row returns a row of the world's abilities.
func (m maker) row() api.Row {
	var r api.Row
	for range m.IntN(4) {
		if len(m.w.Abilities) > 0 {
			r.List = append(r.List, m.w.Abilities[m.IntN(len(m.w.Abilities))].Sum)
		}
	}
	slices.SortFunc(r.List, compare)
	if m.rows > 0 && m.IntN(2) == 0 {
		r.Open, r.Tail = true, m.IntN(m.rows)
	}
	return r
}

// compare compares digests, as their hexadecimal digits would be.
func compare(a, b api.Sum) int { return cmp.Compare(string(a[:]), string(b[:])) }

// data returns a declaration of a member, of at most so many constructors and fields.
func (m maker) data(params, most int) api.Data {
	m.vars = params
	d := api.Data{Unique: []string{"", "", "", "a", "b"}[m.IntN(5)], Params: params}
	for range m.IntN(most + 1) {
		var l []api.Type
		for range m.IntN(most + 1) {
			l = append(l, m.some(1+m.IntN(3)))
		}
		d.Cons = append(d.Cons, l)
	}
	return d
}

// group returns a group of at most so many members.
func (m maker) group(most int) []api.Data {
	m.params = nil
	for range 1 + m.IntN(most) {
		m.params = append(m.params, []int{0, 0, 0, 1, 2}[m.IntN(5)])
	}
	var l []api.Data
	for _, params := range m.params {
		l = append(l, m.data(params, 2))
	}
	return l
}

// ability returns an ability.
func (m maker) ability() api.Ability {
	m.vars, m.rows, m.params = 0, 0, nil
	a := api.Ability{Unique: []string{"", "a", "letters"}[m.IntN(3)]}
	for range m.IntN(4) {
		a.Ops = append(a.Ops, op(m.some(3), m.some(3)))
	}
	return a
}

// world returns a world of a few data types and abilities that mention each other.
func (m maker) world() api.World {
	var w api.World
	for i := range m.IntN(4) {
		w.Abilities = append(w.Abilities, api.KnownAbility{Sum: x(byte(50 + i))})
	}
	for i := range 1 + m.IntN(5) {
		w.Datas = append(w.Datas, api.KnownData{Sum: x(byte(10 + i)), Data: api.Data{Params: m.IntN(4)}})
	}
	m.w, m.rows, m.params = w, 0, nil
	m.Shuffle(len(w.Datas), func(i, j int) { w.Datas[i], w.Datas[j] = w.Datas[j], w.Datas[i] })
	for i := range w.Datas {
		w.Datas[i].Data = m.data(w.Datas[i].Data.Params, 3)
	}
	for i := range w.Abilities {
		w.Abilities[i].Ability = m.ability()
	}
	for i := range m.IntN(3) {
		w.Terms = append(w.Terms, api.KnownTerm{Sum: x(byte(90 + i))})
	}
	return w
}

// cut returns a copy of a value in which all empty lists are nil: they are the same.
func cut[T any](x T) T { return copied(reflect.ValueOf(x), 0).Interface().(T) }

// copied returns a copy of a value in new memory, whose lists have some room behind their ends; without any, empty ones are nil.
func copied(from reflect.Value, room int) reflect.Value {
	to := reflect.New(from.Type()).Elem()
	switch from.Kind() {
	case reflect.Slice:
		if from.Len()+room > 0 {
			to.Set(reflect.MakeSlice(from.Type(), from.Len(), from.Len()+room))
		}
		for i := range from.Len() {
			to.Index(i).Set(copied(from.Index(i), room))
		}
	case reflect.Struct:
		for i := range from.NumField() {
			to.Field(i).Set(copied(from.Field(i), room))
		}
	default:
		to.Set(from)
	}
	return to
}

// same reports whether two values are the same.
func same[T any](a, b T) bool { return reflect.DeepEqual(cut(a), cut(b)) }

// is tells a test what differs from what is wanted.
func is[T any](t *testing.T, what string, got, want T, e, wantE api.Errno) {
	t.Helper()
	if e != wantE || !same(got, want) {
		t.Errorf("%s: got %v, %v, want %v, %v", what, got, e, want, wantE)
	}
}

// wants tells a test of an error that is another one than it should be.
func wants(t *testing.T, what string, got, want api.Errno) {
	t.Helper()
	if got != want {
		t.Errorf("%s: got %v, want %v", what, got, want)
	}
}

// shown returns a type as a text, for what a test says, and to tell types apart.
func shown(t api.Type) string {
	var kids []string
	for _, kid := range t.Kids {
		kids = append(kids, shown(kid))
	}
	s := strconv.Itoa(t.Kind) + ":" + strconv.Itoa(t.Num)
	if t.Ref != (api.Sum{}) {
		s += "#" + string(t.Ref[:])
	}
	if len(t.Row.List) > 0 || t.Row.Open || t.Row.Tail != 0 {
		s += "{"
		for _, a := range t.Row.List {
			s += string(a[:])
		}
		s += strconv.FormatBool(t.Row.Open) + strconv.Itoa(t.Row.Tail) + "}"
	}
	return s + "(" + strings.Join(kids, " ") + ")"
}

// put is Put where no error is expected.
func put(t *testing.T, u api.Type, types []api.Type, rows []api.Row) api.Type {
	t.Helper()
	made, e := decl.Put(u, types, rows)
	if e != api.OK {
		t.Fatalf("Put: %v", e)
	}
	return made
}

// sums is Sums where no error is expected.
func sums(t *testing.T, l []api.Data) []api.Sum {
	t.Helper()
	s, e := decl.Sums(l)
	if e != api.OK {
		t.Fatalf("Sums of %v: %v", l, e)
	}
	return s
}
