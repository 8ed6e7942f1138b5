package decl_test

import (
	"math"
	"slices"
	"testing"
	"time"

	"hoarstone/api"
	"hoarstone/decl"
)

// values is a world with types of which some need a value of their own.
func values() api.World {
	return api.World{
		Datas: []api.KnownData{
			{Sum: x(1), Data: cons(fields())},                                                                                     // Unit
			{Sum: x(2), Data: with(1, cons(fields(), fields(tv(0), data(x(2), tv(0)))))},                                          // List
			{Sum: x(3), Data: with(2, cons(fields(tv(0), tv(1))))},                                                                // Pair
			{Sum: x(4), Data: api.Data{}},                                                                                         // none
			{Sum: x(5), Data: with(1, cons(fields(tv(0), data(x(5), tv(0)))))},                                                    // Stream
			{Sum: x(6), Data: with(2, cons(fields(tv(0)), fields(tv(1))))},                                                        // Either
			{Sum: x(7), Data: cons(fields(data(x(8))))},                                                                           // needs x(8), which needs it
			{Sum: x(8), Data: cons(fields(nat(), data(x(7))))},                                                                    //
			{Sum: x(9), Data: cons(fields(data(x(10))), fields(data(x(4))))},                                                      // has one by x(10)
			{Sum: x(10), Data: cons(fields(data(x(9))), fields(nat()))},                                                           //
			{Sum: x(11), Data: with(1, cons(fields(tv(0)), fields(data(x(11), data(x(3), tv(0), tv(0))))))},                       // grows without end
			{Sum: x(12), Data: with(1, cons(fields(data(x(12), data(x(3), tv(0), tv(0))))))},                                      // grows, and has none
			{Sum: x(13), Data: with(3, cons(fields(data(x(13), tv(1), tv(2), nat()), tv(0)), fields(tv(0), tv(1), tv(2))))},       // turns its arguments
			{Sum: x(14), Data: with(1, cons(fields()))},                                                                           // does not use its argument
			{Sum: x(15), Data: with(1, cons(fields(fun(tv(0), data(x(4)), row()))))},                                              // a function has one
			{Sum: x(16), Data: with(1, cons(fields(data(x(6), tv(0), data(x(16), data(x(6), tv(0), nat()))))))},                   // has one by another one of it
			{Sum: x(17), Data: with(2, cons(fields(data(x(4))), fields(nat(), data(x(6), data(x(4)), data(x(14), data(x(4)))))))}, // by its second constructor
			{Sum: x(18), Data: with(2, cons(fields(data(x(18), tv(1), tv(0)), tv(0)), fields(tv(1), tv(1))))},                     // by one argument that has one
			{Sum: x(19), Data: cons(fields(data(x(2), data(x(19)))))},                                                             // Rose: a list of itself
			{Sum: x(20), Data: cons(fields(data(x(3), data(x(19)), data(x(20)))))},                                                // a pair with itself
		},
		Abilities: []api.KnownAbility{{Sum: x(50)}},
	}
}

// P5.5: types with and without values.
func TestInhabited(t *testing.T) {
	w := values()
	none := data(x(4))
	for _, y := range []struct {
		t    api.Type
		want bool
	}{
		{nat(), true}, {tv(0), true}, {tv(999), true}, {fun(nat(), nat(), row()), true}, {fun(none, none, row(x(50))), true}, {fun(nat(), none, open(999)), true}, {fun(none, tv(5), open(0)), true},
		{data(x(1)), true}, {data(x(2), nat()), true}, {data(x(2), none), true}, {data(x(3), nat(), nat()), true}, {data(x(3), nat(), none), false}, {data(x(3), none, nat()), false}, {data(x(3), tv(3), tv(998)), true}, {none, false},
		{data(x(5), nat()), false}, {data(x(5), tv(0)), false}, {data(x(6), none, nat()), true}, {data(x(6), nat(), none), true}, {data(x(6), none, none), false}, {data(x(7)), false}, {data(x(8)), false}, {data(x(9)), true}, {data(x(10)), true},
		{data(x(11), nat()), true}, {data(x(11), none), false}, {data(x(12), nat()), false}, {data(x(12), none), false}, {data(x(13), nat(), nat(), nat()), true}, {data(x(13), none, nat(), nat()), false}, {data(x(13), nat(), none, nat()), false}, {data(x(13), nat(), nat(), none), false}, {data(x(13), none, none, none), false},
		{data(x(14), none), true}, {data(x(14), data(x(12), none)), true}, {data(x(15), none), true}, {data(x(15), nat()), true}, {data(x(16), none), true}, {data(x(16), nat()), true}, {data(x(17), none, none), true}, {data(x(17), nat(), none), true},
		{data(x(18), nat(), none), true}, {data(x(18), none, nat()), true}, {data(x(18), none, none), false}, {data(x(18), nat(), nat()), true}, {data(x(19)), true}, {data(x(20)), false},
		{data(x(3), data(x(6), none, data(x(5), nat())), nat()), false}, {data(x(3), data(x(6), none, data(x(2), none)), data(x(9))), true}, {data(x(3), fun(none, none, row()), data(x(14), none)), true}, {data(x(2), data(x(3), none, none)), true},
	} {
		got, e := decl.Inhabited(w, y.t)
		is(t, "Inhabited "+shown(y.t), got, y.want, e, api.OK)
		// The order in which data types are known does not matter.
		v := values()
		slices.Reverse(v.Datas)
		got, e = decl.Inhabited(v, y.t)
		is(t, "turned: Inhabited "+shown(y.t), got, y.want, e, api.OK)
	}
	for _, y := range []struct {
		t    api.Type
		want api.Errno
	}{
		{tv(1000), api.ErrRange}, {self(0), api.ErrNot}, {self(8), api.ErrRange}, {data(x(99)), api.ErrNot}, {data(x(50)), api.ErrNot}, {data(x(1), nat()), api.ErrMany}, {data(x(2)), api.ErrMany}, {fun(nat(), nat(), row(x(1))), api.ErrNot}, {fun(nat(), nat(), open(1000)), api.ErrRange}, {chain(61), api.ErrMany}, {data(x(3), nat(), data(x(2))), api.ErrMany}, {data(x(3), none, data(x(99))), api.ErrNot}, {fun(nat(), nat(), row(x(2), x(1))), api.ErrOrder}, {api.Type{Kind: api.TNat, Num: math.MaxInt}, api.ErrForm},
	} {
		got, e := decl.Inhabited(w, y.t)
		is(t, "Inhabited "+shown(y.t), got, false, e, y.want)
	}
}

// holds says whether there is a value of a type, if tables say it of data types, for all arguments with and without values; variable k has one if the bit k of bits is 1.
func holds(t api.Type, bits int, tables map[api.Sum]*[8]bool) bool {
	switch t.Kind {
	case api.TVar:
		return bits>>t.Num&1 == 1
	case api.TData:
		args := 0
		for k, kid := range t.Kids {
			if holds(kid, bits, tables) {
				args |= 1 << k
			}
		}
		return tables[t.Ref][args]
	}
	return true
}

// tabled returns the tables of a world: at first nothing has a value, and then again and again what has one by them.
func tabled(w api.World) map[api.Sum]*[8]bool {
	tables := map[api.Sum]*[8]bool{}
	for _, k := range w.Datas {
		tables[k.Sum] = &[8]bool{}
	}
	for again := true; again; {
		again = false
		for _, k := range w.Datas {
			for bits := range 8 {
				for _, con := range k.Data.Cons {
					full := true
					for _, field := range con {
						full = full && holds(field, bits, tables)
					}
					if full && !tables[k.Sum][bits] {
						tables[k.Sum][bits], again = true, true
					}
				}
			}
		}
	}
	return tables
}

// lean returns a world whose data types have few constructors, so that many have no values.
func lean(m maker) api.World {
	w := m.world()
	m.w, m.rows = w, 0
	for i := range w.Datas {
		d := &w.Datas[i].Data
		d.Cons, m.vars = nil, d.Params
		for range 1 + m.IntN(2) {
			d.Cons = append(d.Cons, nil)
			for range 1 + m.IntN(3) {
				// Mostly data types, with arguments that are often some again.
				k := w.Datas[m.IntN(len(w.Datas))]
				var kids []api.Type
				for range k.Data.Params {
					kids = append(kids, m.some(1+m.IntN(2)))
				}
				last := len(d.Cons) - 1
				d.Cons[last] = append(d.Cons[last], data(k.Sum, kids...))
				if m.IntN(6) == 0 {
					d.Cons[last] = fields(m.some(1))
				}
			}
		}
	}
	return w
}

// P5.5: what has a value is what has one by tables that are filled step by step.
func TestInhabitedMade(t *testing.T) {
	r := seeded(7)
	met := map[bool]int{}
	// All variables of a type have values.
	types, rows := times(1000, nat()), times(1000, row())
	for range 1500 {
		w := lean(maker{Rand: r})
		tables := tabled(w)
		m := maker{r, w, 1000, 1000, nil}
		for range 8 {
			u := m.some(3)
			if k := w.Datas[r.IntN(len(w.Datas))]; r.IntN(3) > 0 {
				var kids []api.Type
				for range k.Data.Params {
					kids = append(kids, m.some(2))
				}
				u = data(k.Sum, kids...)
			}
			want := holds(plainPut(u, types, rows), 0, tables)
			met[want]++
			got, e := decl.Inhabited(w, u)
			is(t, "Inhabited "+shown(u), got, want, e, api.OK)
		}
	}
	if met[true] < 1000 || met[false] < 1000 {
		t.Error(met)
	}
}

// P5.5, P0.1: a chain of as many data types as there may be, each of which has a value by its last constructor, and by the next one only, is gone through in little time, in whatever order they are known.
func TestInhabitedLong(t *testing.T) {
	for _, turned := range []bool{false, true} {
		for _, last := range []api.Data{with(3, cons()), with(3, cons(fields()))} {
			var w api.World
			for i := range 59 {
				itself := fields(nat(), fun(nat(), nat(), row()), data(x(byte(1+i)), tv(2), nat(), tv(0)), data(x(byte(1+i)), tv(1), tv(2), tv(0)))
				next := fields(nat(), tv(0), tv(1), data(x(byte(2+i)), tv(1), tv(0), tv(1)))
				w.Datas = append(w.Datas, api.KnownData{Sum: x(byte(1 + i)), Data: with(3, cons(append(times(7, itself), next)...))})
			}
			w.Datas = append(w.Datas, api.KnownData{Sum: x(60), Data: last})
			if turned {
				slices.Reverse(w.Datas)
			}
			start := time.Now()
			got, e := decl.Inhabited(w, data(x(1), nat(), nat(), data(x(60), nat(), nat(), nat())))
			is(t, "a chain", got, len(last.Cons) > 0, e, api.OK)
			if took := time.Since(start); took > 20*time.Second {
				t.Error("took", took)
			}
		}
	}
}
