package decl_test

import (
	"math"
	"slices"
	"strings"
	"testing"

	"hoarstone/api"
	"hoarstone/decl"
)

// datas is groups of the right shape.
func datas() [][]api.Data {
	return [][]api.Data{
		group(api.Data{}), group(list(0)), group(with(3, cons(fields(tv(0), tv(1), tv(2))))), group(times(8, cons())...), group(cons(times(8, fields())...)), group(cons(times(8, times(4, nat()))...)),
		group(named("abcdefghij", cons())), group(named("az", cons(fields(self(0))))), group(cons(fields(self(1))), cons(fields(self(0)))), group(list(0), cons(fields(self(0, nat()))), list(2)),
		group(cons(fields(self(1, self(0)))), list(1)), group(cons(fields(sized(60), chain(60), fun(nat(), data(x(9)), row(x(1), x(1)))))),
		group(cons(times(8, times(2, sized(60)))...), cons(fields(sized(40)))), group(append(times(7, cons()), cons(fields(self(7))))...),
	}
}

// abilities is abilities of the right shape.
func abilities() []api.Ability {
	return []api.Ability{
		{}, {Unique: "abcdefghij"}, ops(op(nat(), nat())), ops(times(8, op(nat(), data(x(3), nat())))...), ops(times(8, op(sized(60), chain(60)))...), {Unique: "st", Ops: []api.Op{op(nat(), nat()), op(fun(nat(), nat(), row(x(1), x(2))), data(x(1)))}},
	}
}

// uniques is texts that are not the Unique of a declaration.
func uniques() []string {
	return []string{"abcdefghijk", "A", "aB", "a1", "a b", "a_", " ", "ä", "\xff", "a\x00", "`", "{", strings.Repeat("a", 100000), strings.Repeat("ä", 5)}
}

// P5.2: declarations at the limits, and one beyond.
func TestShapeDatas(t *testing.T) {
	for i, l := range datas() {
		if e := decl.ShapeDatas(l); e != api.OK {
			t.Error(i, e)
		}
		if e := plainDatas(l); e != api.OK {
			t.Error(i, "plain", e)
		}
	}
	for _, s := range uniques() {
		wants(t, s, decl.ShapeDatas(group(named(s, cons()))), api.ErrForm)
		wants(t, s, decl.ShapeDatas(group(cons(), named(s, with(9, cons())))), api.ErrForm)
	}
	order := fun(nat(), nat(), row(x(2), x(1)))
	for i, y := range []struct {
		l    []api.Data
		want api.Errno
	}{
		{nil, api.ErrMany}, {group(times(9, cons())...), api.ErrMany}, {group(times(9, named("A", cons()))...), api.ErrMany}, {group(times(100000, cons())...), api.ErrMany},
		{group(with(-1, cons())), api.ErrRange}, {group(with(4, cons())), api.ErrRange}, {group(with(math.MinInt, cons())), api.ErrRange}, {group(with(math.MaxInt, cons())), api.ErrRange}, {group(with(3, cons())), api.OK}, {group(named("A", with(4, cons()))), api.ErrForm},
		{group(cons(times(9, fields())...)), api.ErrMany}, {group(with(4, cons(times(9, fields())...))), api.ErrRange}, {group(cons(append(times(8, fields()), fields(api.Type{}))...)), api.ErrMany},
		{group(cons(times(5, nat()))), api.ErrMany}, {group(cons(fields(), times(5, api.Type{}))), api.ErrMany}, {group(cons(fields(api.Type{}), times(5, nat()))), api.ErrRange}, {group(cons(times(5, nat()), fields(api.Type{}))), api.ErrMany},
		{group(cons(fields(api.Type{}))), api.ErrRange}, {group(cons(fields(nat(), chain(61)))), api.ErrMany}, {group(cons(fields(nat(), order))), api.ErrOrder}, {group(cons(fields(api.Type{Kind: api.TNat, Num: 1}))), api.ErrForm},
		{group(cons(fields(tv(0)))), api.ErrNot}, {group(with(1, cons(fields(tv(0))))), api.OK}, {group(with(1, cons(fields(tv(1))))), api.ErrNot}, {group(with(3, cons(fields(tv(2))))), api.OK}, {group(with(3, cons(fields(data(x(1), tv(3)))))), api.ErrNot}, {group(with(1, cons()), cons(fields(tv(0)))), api.ErrNot},
		{group(cons(fields(self(0)))), api.OK}, {group(cons(fields(self(1)))), api.ErrNot}, {group(cons(fields(self(1))), cons(fields(self(2)))), api.ErrNot}, {group(cons(fields(data(x(1), self(7))))), api.ErrNot}, {group(append(times(6, cons()), cons(fields(self(7))))...), api.ErrNot},
		{group(cons(fields(fun(nat(), nat(), open(0))))), api.ErrNot}, {group(with(3, cons(fields(fun(nat(), nat(), open(0, x(1))))))), api.ErrNot}, {group(cons(fields(data(x(1), fun(nat(), nat(), open(2)))))), api.ErrNot},
		{group(cons(fields(self(0, nat())))), api.ErrMany}, {group(with(1, cons(fields(self(0))))), api.ErrMany}, {group(with(1, cons(fields(self(0, nat(), nat()))))), api.ErrMany}, {group(list(0), cons(fields(self(0)))), api.ErrMany}, {group(cons(fields(self(1))), list(1)), api.ErrMany}, {group(cons(fields(self(1, nat()))), list(1)), api.OK},
		// How many Params a member has is asked of it behind what mentions it.
		{group(cons(fields(self(1))), with(4, cons())), api.ErrMany}, {group(cons(fields(self(1, nat()))), with(-1, cons())), api.ErrMany}, {group(cons(), with(-1, cons(fields(self(0, nat()))))), api.ErrRange},
		// Of one field Shape is asked first, and then each type, the first one that is wrong deciding.
		{group(cons(fields(data(x(1), tv(0), order)))), api.ErrOrder}, {group(cons(fields(data(x(1), self(0, nat()), tv(0))))), api.ErrMany}, {group(cons(fields(data(x(1), tv(0), self(0, nat()))))), api.ErrNot}, {group(cons(fields(self(0, tv(0))))), api.ErrMany}, {group(cons(fields(self(1, nat())))), api.ErrNot}, {group(cons(fields(fun(self(0, nat()), nat(), open(1))))), api.ErrNot},
		// The first field, constructor and member with an error decides.
		{group(cons(fields(tv(0), order))), api.ErrNot}, {group(cons(fields(order, tv(0)))), api.ErrOrder}, {group(cons(fields(tv(0)), fields(order))), api.ErrNot}, {group(cons(fields(nat(), self(0, nat())), fields(tv(0)))), api.ErrMany}, {group(cons(fields(order)), with(9, cons())), api.ErrOrder}, {group(with(9, cons()), cons(fields(order))), api.ErrRange}, {group(cons(), cons(times(9, fields())...), named("A", cons())), api.ErrMany},
		// A TSelf is asked of Shape first.
		{group(cons(fields(self(8)))), api.ErrRange}, {group(cons(fields(self(0, times(4, nat())...)))), api.ErrMany},
	} {
		if e := decl.ShapeDatas(y.l); e != y.want {
			t.Errorf("%d: got %v, want %v", i, e, y.want)
		}
		if e := plainDatas(y.l); e != y.want {
			t.Errorf("%d: plain: got %v, want %v", i, e, y.want)
		}
	}
	for _, u := range round() {
		wants(t, "round", decl.ShapeDatas(group(cons(fields(u)))), api.ErrMany)
	}
}

// P5.2: as many types in all fields together as there may be, and one more; this is asked behind all else.
func TestManyTypes(t *testing.T) {
	full := cons(times(4, times(4, sized(60)))...) // 960
	for i, y := range []struct {
		l    []api.Data
		want api.Errno
	}{
		{group(full, cons(fields(sized(40)))), api.OK}, {group(full, cons(fields(sized(41)))), api.ErrMany}, {group(full, cons(fields(sized(20), sized(19)), fields(nat()))), api.OK}, {group(full, cons(fields(sized(20), sized(19)), fields(nat()), fields(nat()))), api.ErrMany},
		{group(cons(append(full.Cons, fields(sized(40)))...)), api.OK}, {group(cons(append(full.Cons, fields(sized(40), nat()))...)), api.ErrMany}, {group(full, full), api.ErrMany}, {times(8, cons(times(8, times(4, sized(60)))...)), api.ErrMany},
		{group(full, full, named("A", cons())), api.ErrForm}, {group(full, full, cons(fields(tv(0)))), api.ErrNot}, {group(full, cons(fields(sized(40)), fields(), fields())), api.OK},
	} {
		wants(t, "ShapeDatas "+string(rune('a'+i)), decl.ShapeDatas(y.l), y.want)
	}
	w := api.World{Datas: []api.KnownData{{Sum: x(1), Data: cons(append(slices.Clone(full.Cons), fields(chain(41)))...)}}}
	wants(t, "CheckWorld", decl.CheckWorld(w), api.ErrMany)
}

// P5.2: abilities at the limits, and one beyond.
func TestShapeAbility(t *testing.T) {
	for i, a := range abilities() {
		if e := decl.ShapeAbility(a); e != api.OK {
			t.Error(i, e)
		}
	}
	for _, s := range uniques() {
		wants(t, s, decl.ShapeAbility(api.Ability{Unique: s, Ops: times(9, api.Op{})}), api.ErrForm)
	}
	order := fun(nat(), nat(), row(x(2), x(1)))
	for i, y := range []struct {
		a    api.Ability
		want api.Errno
	}{
		{ops(times(8, op(nat(), nat()))...), api.OK}, {ops(times(9, op(nat(), nat()))...), api.ErrMany}, {ops(times(9, api.Op{})...), api.ErrMany},
		{ops(api.Op{}), api.ErrRange}, {ops(op(nat(), api.Type{})), api.ErrRange}, {ops(op(order, nat())), api.ErrOrder}, {ops(op(nat(), order)), api.ErrOrder}, {ops(op(nat(), chain(61))), api.ErrMany}, {ops(op(nat(), chain(60))), api.OK},
		{ops(op(tv(0), nat())), api.ErrNot}, {ops(op(nat(), tv(0))), api.ErrNot}, {ops(op(self(0), nat())), api.ErrNot}, {ops(op(nat(), self(0))), api.ErrNot}, {ops(op(nat(), data(x(1), nat(), tv(0)))), api.ErrNot}, {ops(op(data(x(1), self(0)), nat())), api.ErrNot},
		{ops(op(fun(nat(), nat(), open(0)), nat())), api.ErrNot}, {ops(op(nat(), fun(nat(), nat(), open(0)))), api.ErrNot}, {ops(op(nat(), fun(nat(), fun(nat(), nat(), open(0)), row()))), api.ErrNot}, {ops(op(nat(), fun(nat(), nat(), row(x(1))))), api.OK},
		// Shape first, From before To, the first operation.
		{ops(op(data(x(1), tv(0), order), nat())), api.ErrOrder}, {ops(op(tv(0), order)), api.ErrNot}, {ops(op(order, tv(0))), api.ErrOrder}, {ops(op(nat(), tv(0)), op(order, nat())), api.ErrNot}, {ops(op(nat(), order), op(tv(0), nat())), api.ErrOrder}, {ops(op(nat(), nat()), op(nat(), api.Type{}), op(tv(0), nat())), api.ErrRange},
	} {
		if e := decl.ShapeAbility(y.a); e != y.want {
			t.Errorf("%d: got %v, want %v", i, e, y.want)
		}
		if e := plainAbility(y.a); e != y.want {
			t.Errorf("%d: plain: got %v, want %v", i, e, y.want)
		}
	}
	for _, u := range round() {
		wants(t, "round", decl.ShapeAbility(ops(op(u, nat()))), api.ErrMany)
	}
}

// P5.2: declarations in a world.
func TestCheckDatas(t *testing.T) {
	w := full()
	for i, y := range []struct {
		l    []api.Data
		want api.Errno
	}{
		{group(cons(fields(data(x(1)), data(x(2), nat()), data(x(5))))), api.OK}, {group(list(0)), api.OK}, {group(with(1, cons(fields(data(x(3), tv(0), self(1, tv(0)))))), list(1)), api.OK}, {group(cons(fields(fun(nat(), nat(), row(x(11), x(12), x(13)))))), api.OK},
		{group(cons(fields(data(x(9))))), api.ErrNot}, {group(cons(fields(data(x(11))))), api.ErrNot}, {group(cons(fields(data(x(21))))), api.ErrNot}, {group(cons(fields(data(x(2), data(x(9)))))), api.ErrNot}, {group(cons(fields(data(x(9), nat())))), api.ErrNot},
		{group(cons(fields(data(x(1), nat())))), api.ErrMany}, {group(cons(fields(data(x(2))))), api.ErrMany}, {group(cons(fields(data(x(3), nat(), nat(), nat())))), api.ErrMany},
		{group(cons(fields(fun(nat(), nat(), row(x(1)))))), api.ErrNot}, {group(cons(fields(fun(nat(), nat(), row(x(21)))))), api.ErrNot}, {group(cons(fields(fun(nat(), nat(), row(x(11), x(11), x(14)))))), api.ErrNot}, {group(cons(fields(fun(nat(), nat(), row(x(2), x(11)))))), api.ErrNot}, {group(cons(fields(self(0))), cons(fields(nat()), fields(nat(), data(x(2), fun(nat(), nat(), row(x(9))))))), api.ErrNot},
		// The first type with an error decides.
		{group(cons(fields(data(x(2)), data(x(9))))), api.ErrMany}, {group(cons(fields(data(x(9)), data(x(2))))), api.ErrNot}, {group(cons(fields(data(x(2))), fields(data(x(9))))), api.ErrMany}, {group(cons(fields(data(x(9)))), cons(fields(data(x(2))))), api.ErrNot}, {group(cons(fields(data(x(2)))), cons(fields(data(x(9))))), api.ErrMany},
		{group(cons(fields(data(x(2), data(x(2)), data(x(9)))))), api.ErrMany}, {group(cons(fields(data(x(2), data(x(9)))), fields(data(x(2))))), api.ErrNot}, {group(cons(fields(fun(data(x(2)), nat(), row(x(9)))))), api.ErrNot}, {group(cons(fields(fun(data(x(2)), data(x(9)), row(x(11)))))), api.ErrMany},
		// The shape comes before.
		{nil, api.ErrMany}, {group(cons(fields(data(x(9)))), with(4, cons())), api.ErrRange}, {group(cons(fields(data(x(2)))), cons(fields(tv(0)))), api.ErrNot}, {group(cons(fields(data(x(9)))), cons(fields(self(0, nat())))), api.ErrMany}, {group(cons(fields(data(x(9)))), named("A", cons())), api.ErrForm},
	} {
		if e := decl.CheckDatas(w, y.l); e != y.want {
			t.Errorf("%d: got %v, want %v", i, e, y.want)
		}
		want := firstOf([]api.Errno{plainWorld(w), plainDatas(y.l)}, func() api.Errno { return plainRefers(w, fieldTypes(y.l)) })
		if want != y.want {
			t.Errorf("%d: plain: got %v, want %v", i, want, y.want)
		}
	}
}

// P5.2: abilities in a world.
func TestCheckAbility(t *testing.T) {
	w := full()
	for i, y := range []struct {
		a    api.Ability
		want api.Errno
	}{
		{api.Ability{}, api.OK}, {ops(op(data(x(2), data(x(1))), fun(nat(), nat(), row(x(11), x(12))))), api.OK}, {ops(op(data(x(9)), nat())), api.ErrNot}, {ops(op(nat(), data(x(9)))), api.ErrNot}, {ops(op(data(x(12)), nat())), api.ErrNot}, {ops(op(nat(), data(x(2)))), api.ErrMany}, {ops(op(data(x(1), nat()), nat())), api.ErrMany},
		{ops(op(fun(nat(), nat(), row(x(9))), nat())), api.ErrNot}, {ops(op(nat(), fun(nat(), nat(), row(x(3))))), api.ErrNot}, {ops(op(nat(), fun(nat(), fun(nat(), nat(), row(x(21))), row(x(13))))), api.ErrNot},
		{ops(op(data(x(2)), data(x(9)))), api.ErrMany}, {ops(op(data(x(9)), data(x(2)))), api.ErrNot}, {ops(op(nat(), data(x(2))), op(data(x(9)), nat())), api.ErrMany}, {ops(op(nat(), data(x(9))), op(data(x(2)), nat())), api.ErrNot}, {ops(op(data(x(2)), nat()), op(tv(0), nat())), api.ErrNot}, {ops(op(data(x(9)), nat()), op(chain(61), nat())), api.ErrMany}, {api.Ability{Unique: "A", Ops: []api.Op{op(data(x(9)), nat())}}, api.ErrForm},
	} {
		if e := decl.CheckAbility(w, y.a); e != y.want {
			t.Errorf("%d: got %v, want %v", i, e, y.want)
		}
		want := firstOf([]api.Errno{plainWorld(w), plainAbility(y.a)}, func() api.Errno { return plainRefers(w, opTypes(y.a)) })
		if want != y.want {
			t.Errorf("%d: plain: got %v, want %v", i, want, y.want)
		}
	}
}

// knownDatas returns so many data types with digests of their own, knownAbilities and knownTerms likewise.
func knownDatas(n, from int, d api.Data) []api.KnownData {
	var l []api.KnownData
	for i := range n {
		l = append(l, api.KnownData{Sum: x(byte(from + i)), Data: d})
	}
	return l
}
func knownAbilities(n, from int, a api.Ability) []api.KnownAbility {
	var l []api.KnownAbility
	for i := range n {
		l = append(l, api.KnownAbility{Sum: x(byte(from + i)), Ability: a})
	}
	return l
}
func knownTerms(n, from int) []api.KnownTerm {
	var l []api.KnownTerm
	for i := range n {
		l = append(l, api.KnownTerm{Sum: x(byte(from + i)), Body: api.Term{Kind: -1}})
	}
	return l
}

// P5.2: worlds: how much is known, each digest once, and each declaration.
func TestCheckWorld(t *testing.T) {
	bad := cons(fields(api.Type{}))
	order := fun(nat(), nat(), row(x(2), x(1)))
	know := func(l ...api.Data) []api.KnownData {
		var all []api.KnownData
		for i, d := range l {
			all = append(all, api.KnownData{Sum: x(byte(1 + i)), Data: d})
		}
		return all
	}
	able := func(l ...api.Ability) []api.KnownAbility {
		var all []api.KnownAbility
		for i, a := range l {
			all = append(all, api.KnownAbility{Sum: x(byte(101 + i)), Ability: a})
		}
		return all
	}
	for i, y := range []struct {
		w    api.World
		want api.Errno
	}{
		{api.World{}, api.OK}, {full(), api.OK}, {api.World{Datas: knownDatas(60, 1, cons()), Abilities: knownAbilities(60, 61, ops()), Terms: knownTerms(60, 121)}, api.OK},
		{api.World{Datas: knownDatas(61, 1, bad)}, api.ErrMany}, {api.World{Abilities: knownAbilities(61, 1, ops(api.Op{}))}, api.ErrMany}, {api.World{Terms: knownTerms(61, 1)}, api.ErrMany}, {api.World{Terms: times(61, api.KnownTerm{})}, api.ErrMany}, {api.World{Datas: times(61, api.KnownData{})}, api.ErrMany}, {api.World{Datas: knownDatas(60, 1, bad), Abilities: knownAbilities(60, 1, ops()), Terms: knownTerms(61, 1)}, api.ErrMany},
		// A digest that is known twice, as whatever.
		{api.World{Datas: times(2, api.KnownData{Sum: x(1)})}, api.ErrTwice}, {api.World{Abilities: times(2, api.KnownAbility{})}, api.ErrTwice}, {api.World{Terms: times(2, api.KnownTerm{Sum: x(1)})}, api.ErrTwice}, {api.World{Datas: times(1, api.KnownData{Sum: x(1)}), Abilities: times(1, api.KnownAbility{Sum: x(1)})}, api.ErrTwice}, {api.World{Datas: times(1, api.KnownData{Sum: x(1)}), Terms: times(1, api.KnownTerm{Sum: x(1)})}, api.ErrTwice}, {api.World{Abilities: times(1, api.KnownAbility{Sum: x(1)}), Terms: times(1, api.KnownTerm{Sum: x(1)})}, api.ErrTwice},
		{api.World{Datas: append(knownDatas(3, 1, bad), knownDatas(1, 1, cons())...)}, api.ErrTwice}, {api.World{Datas: knownDatas(60, 1, bad), Terms: knownTerms(60, 60)}, api.ErrTwice}, {api.World{Datas: knownDatas(60, 1, cons()), Terms: knownTerms(60, 61)}, api.OK},
		// The shape of each data type alone, without members.
		{api.World{Datas: know(cons(), bad)}, api.ErrRange}, {api.World{Datas: know(with(4, cons()))}, api.ErrRange}, {api.World{Datas: know(named("A", cons()))}, api.ErrForm}, {api.World{Datas: know(cons(fields(order)))}, api.ErrOrder}, {api.World{Datas: know(cons(times(9, fields())...))}, api.ErrMany}, {api.World{Datas: know(cons(fields(tv(0))))}, api.ErrNot},
		{api.World{Datas: know(cons(fields(self(0))))}, api.ErrNot}, {api.World{Datas: know(list(0))}, api.ErrNot}, {api.World{Datas: know(cons(fields(self(0, nat()))))}, api.ErrMany}, {api.World{Datas: know(cons(), cons(fields(self(1))))}, api.ErrNot}, {api.World{Datas: know(cons(fields(self(0))), bad)}, api.ErrNot}, {api.World{Datas: know(bad, cons(fields(self(0))))}, api.ErrRange}, {api.World{Datas: know(cons(fields(data(x(1)), data(x(1), self(0)))), bad)}, api.ErrNot}, {api.World{Datas: know(cons(fields(self(0)), fields(order)))}, api.ErrOrder},
		// Then that of each ability, and then what all of them refer to.
		{api.World{Datas: know(cons(fields(self(0)))), Abilities: able(ops(api.Op{}))}, api.ErrNot}, {api.World{Datas: know(cons(fields(data(x(2))))), Abilities: able(ops(), ops(api.Op{}))}, api.ErrRange}, {api.World{Abilities: able(ops(op(tv(0), nat())), ops(op(order, nat())))}, api.ErrNot}, {api.World{Abilities: able(ops(op(nat(), order)), ops(op(nat(), tv(0))))}, api.ErrOrder}, {api.World{Abilities: able(ops(op(data(x(9)), nat())), api.Ability{Unique: "A"})}, api.ErrForm},
		{api.World{Datas: know(cons(fields(data(x(2)))))}, api.ErrNot}, {api.World{Datas: know(cons(fields(data(x(2)))), cons())}, api.OK}, {api.World{Datas: know(cons(fields(data(x(2)))), list(0))}, api.ErrNot}, {api.World{Datas: know(cons(fields(data(x(2)))), with(1, cons()))}, api.ErrMany}, {api.World{Datas: know(cons(fields(data(x(2), data(x(1))))), with(1, cons(fields(data(x(1))))))}, api.OK},
		{api.World{Datas: know(cons(fields(data(x(101))))), Abilities: able(ops())}, api.ErrNot}, {api.World{Datas: know(cons(fields(fun(nat(), nat(), row(x(101)))))), Abilities: able(ops())}, api.OK}, {api.World{Datas: know(cons(fields(fun(nat(), nat(), row(x(102)))))), Abilities: able(ops())}, api.ErrNot}, {api.World{Datas: know(cons(fields(fun(nat(), nat(), row(x(1))))))}, api.ErrNot}, {api.World{Datas: know(cons(fields(data(x(7))))), Terms: knownTerms(1, 7)}, api.ErrNot},
		{api.World{Datas: know(cons(fields(data(x(1), nat()))), cons(fields(data(x(9)))))}, api.ErrMany}, {api.World{Datas: know(cons(fields(data(x(9)))), cons(fields(data(x(1), nat()))))}, api.ErrNot}, {api.World{Datas: know(cons(fields(data(x(1), nat())))), Abilities: able(ops(op(data(x(9)), nat())))}, api.ErrMany}, {api.World{Datas: know(cons(fields(data(x(9))))), Abilities: able(ops(op(data(x(1), nat()), nat())))}, api.ErrNot},
		{api.World{Abilities: able(ops(op(nat(), fun(nat(), nat(), row(x(102))))), ops())}, api.OK}, {api.World{Abilities: able(ops(op(nat(), fun(nat(), nat(), row(x(101)))))), Datas: know(cons())}, api.OK}, {api.World{Abilities: able(ops(op(nat(), fun(nat(), nat(), row(x(1)))))), Datas: know(cons())}, api.ErrNot}, {api.World{Abilities: able(ops(op(nat(), data(x(1), nat()))), ops(op(data(x(9)), nat()))), Datas: know(cons())}, api.ErrMany}, {api.World{Abilities: able(ops(op(data(x(9)), nat())), ops(op(nat(), data(x(1), nat())))), Datas: know(cons())}, api.ErrNot},
	} {
		if e := decl.CheckWorld(y.w); e != y.want {
			t.Errorf("%d: got %v, want %v", i, e, y.want)
		}
		if e := plainWorld(y.w); e != y.want {
			t.Errorf("%d: plain: got %v, want %v", i, e, y.want)
		}
	}
}

// spoilData changes something in a declaration.
func spoilData(r interface{ IntN(int) int }, d *api.Data) {
	switch k := r.IntN(8); {
	case k < 4 && len(d.Cons) > 0:
		con := d.Cons[r.IntN(len(d.Cons))]
		if len(con) > 0 {
			spoil(r, &con[r.IntN(len(con))])
		}
	case k == 4:
		d.Params += r.IntN(5) - 2
	case k == 5:
		d.Unique += []string{"a", "A", "abcdefghij"}[r.IntN(3)]
	case k == 6:
		d.Cons = append(d.Cons, times(1+r.IntN(7), fields())...)
	case k == 7 && len(d.Cons) > 0:
		i := r.IntN(len(d.Cons))
		d.Cons[i] = append(d.Cons[i], times(1+r.IntN(4), nat())...)
	}
}

// spoilWorld changes something in a world.
func spoilWorld(r interface{ IntN(int) int }, w *api.World) {
	switch k := r.IntN(9); {
	case k < 4:
		spoilData(r, &w.Datas[r.IntN(len(w.Datas))].Data)
	case k < 6 && len(w.Abilities) > 0:
		a := &w.Abilities[r.IntN(len(w.Abilities))].Ability
		switch {
		case len(a.Ops) == 0:
			a.Unique += "abcdef"
		case r.IntN(2) == 0:
			spoil(r, &a.Ops[r.IntN(len(a.Ops))].From)
		default:
			spoil(r, &a.Ops[r.IntN(len(a.Ops))].To)
		}
	case k == 6:
		w.Terms = append(w.Terms, api.KnownTerm{Sum: x(byte(r.IntN(100)))})
	case k == 7:
		w.Datas[r.IntN(len(w.Datas))].Sum = x(byte(9 + r.IntN(7)))
	case k == 8 && len(w.Abilities) > 0:
		w.Abilities[r.IntN(len(w.Abilities))].Sum = x(byte(49 + r.IntN(5)))
	}
}

// P5.2: groups, abilities and worlds are right just if the chapter says so, whatever is spoiled in them.
func TestDeclarationsSpoiled(t *testing.T) {
	r := seeded(2)
	met, metWorld := map[api.Errno]int{}, map[api.Errno]int{}
	for i := range 6000 {
		m := maker{Rand: r}
		m.w = m.world()
		wants(t, "made world", decl.CheckWorld(m.w), api.OK)
		l := m.group(4)
		wants(t, "made group", decl.CheckDatas(m.w, l), plainDatas(l))
		for range r.IntN(3) {
			spoilData(r, &l[r.IntN(len(l))])
		}
		want := plainDatas(l)
		wants(t, "ShapeDatas", decl.ShapeDatas(l), want)
		met[want]++
		a := m.ability()
		wants(t, "made ability", decl.CheckAbility(m.w, a), api.OK)
		if len(a.Ops) > 0 && r.IntN(3) > 0 {
			spoil(r, &a.Ops[r.IntN(len(a.Ops))].To)
		}
		wants(t, "ShapeAbility", decl.ShapeAbility(a), plainAbility(a))
		for range i % 3 {
			spoilWorld(r, &m.w)
		}
		want = plainWorld(m.w)
		wants(t, "CheckWorld", decl.CheckWorld(m.w), want)
		metWorld[want]++
		wants(t, "CheckDatas", decl.CheckDatas(m.w, l), firstOf([]api.Errno{want, plainDatas(l)}, func() api.Errno { return plainRefers(m.w, fieldTypes(l)) }))
		wants(t, "CheckAbility", decl.CheckAbility(m.w, a), firstOf([]api.Errno{want, plainAbility(a)}, func() api.Errno { return plainRefers(m.w, opTypes(a)) }))
	}
	for _, e := range []api.Errno{api.OK, api.ErrForm, api.ErrRange, api.ErrMany, api.ErrNot} {
		if met[e] < 20 || metWorld[e] < 50 {
			t.Error(e, met[e], metWorld[e])
		}
	}
	if metWorld[api.ErrTwice] < 50 {
		t.Error(metWorld)
	}
}
