package space_test

import (
	"slices"
	"testing"

	"hoarstone/api"
	"hoarstone/space"
)

// P7.2: paths are added, get other digests, are dropped and moved, in whatever order, and the namespace is that of plain books.
func TestChanging(t *testing.T) {
	r := seeded(10)
	for range 100 {
		b := some(r, 8)
		for range 40 {
			i, from, to, x := r.IntN(2), path(r), path(r), digest(r)
			if l := b[i].paths(); len(l) > 0 && r.IntN(2) == 0 {
				from = pick(r, l)
			}
			_, has := b[i][from]
			_, hasTo := b[i][to]
			s, c := b.space(), b.copy()
			var got api.Space
			e, want := api.OK, api.OK
			switch r.IntN(4) {
			case 0:
				got, e = space.Add(s, kinds[i], from, x)
				c[i][from] = x
				if has {
					want = api.ErrTwice
				}
			case 1:
				got, e = space.Set(s, kinds[i], from, x)
				c[i][from] = x
				if !has {
					want = api.ErrNone
				}
			case 2:
				got, e = space.Drop(s, kinds[i], from)
				delete(c[i], from)
				if !has {
					want = api.ErrNone
				}
			case 3:
				got, e = space.Move(s, kinds[i], from, to)
				delete(c[i], from)
				c[i][to] = b[i][from]
				if !has {
					want = api.ErrNone
				} else if hasTo {
					want = api.ErrTwice
				}
			}
			makes(t, told(s)+": "+from+", "+to, got, e, c.space(), want)
			if e == api.OK {
				b = c
			}
		}
	}
}

// P7.2: each place of a list, by hand.
func TestChangingByHand(t *testing.T) {
	s := both(terms("a.b", 1, "b", 2, "c", 3), types("b", 7))
	for i, y := range []struct {
		of   func(kind int) (api.Space, api.Errno)
		want [2]api.Space
		e    [2]api.Errno
	}{
		{func(kind int) (api.Space, api.Errno) { return space.Add(s, kind, "a", x(0)) }, [2]api.Space{both(terms("a", 0, "a.b", 1, "b", 2, "c", 3), s), both(s, types("a", 0, "b", 7))}, [2]api.Errno{}},
		{func(kind int) (api.Space, api.Errno) { return space.Add(s, kind, "d", x(1)) }, [2]api.Space{both(terms("a.b", 1, "b", 2, "c", 3, "d", 1), s), both(s, types("b", 7, "d", 1))}, [2]api.Errno{}},
		{func(kind int) (api.Space, api.Errno) { return space.Add(s, kind, "a.b", x(1)) }, [2]api.Space{{}, both(s, types("a.b", 1, "b", 7))}, [2]api.Errno{api.ErrTwice, api.OK}},
		{func(kind int) (api.Space, api.Errno) { return space.Set(s, kind, "b", x(9)) }, [2]api.Space{both(terms("a.b", 1, "b", 9, "c", 3), s), both(s, types("b", 9))}, [2]api.Errno{}},
		{func(kind int) (api.Space, api.Errno) { return space.Set(s, kind, "b", x(2)) }, [2]api.Space{s, both(s, types("b", 2))}, [2]api.Errno{}},
		{func(kind int) (api.Space, api.Errno) { return space.Set(s, kind, "a", x(9)) }, [2]api.Space{}, [2]api.Errno{api.ErrNone, api.ErrNone}},
		{func(kind int) (api.Space, api.Errno) { return space.Drop(s, kind, "b") }, [2]api.Space{both(terms("a.b", 1, "c", 3), s), terms("a.b", 1, "b", 2, "c", 3)}, [2]api.Errno{}},
		{func(kind int) (api.Space, api.Errno) { return space.Drop(s, kind, "c") }, [2]api.Space{both(terms("a.b", 1, "b", 2), s), {}}, [2]api.Errno{api.OK, api.ErrNone}},
		{func(kind int) (api.Space, api.Errno) { return space.Move(s, kind, "b", "z") }, [2]api.Space{both(terms("a.b", 1, "c", 3, "z", 2), s), both(s, types("z", 7))}, [2]api.Errno{}},
		{func(kind int) (api.Space, api.Errno) { return space.Move(s, kind, "c", "a") }, [2]api.Space{both(terms("a", 3, "a.b", 1, "b", 2), s), {}}, [2]api.Errno{api.OK, api.ErrNone}},
		{func(kind int) (api.Space, api.Errno) { return space.Move(s, kind, "b", "c") }, [2]api.Space{{}, both(s, types("c", 7))}, [2]api.Errno{api.ErrTwice, api.OK}},
		{func(kind int) (api.Space, api.Errno) { return space.Move(s, kind, "b", "b") }, [2]api.Space{}, [2]api.Errno{api.ErrTwice, api.ErrTwice}},
		{func(kind int) (api.Space, api.Errno) { return space.Move(s, kind, "z", "b") }, [2]api.Space{}, [2]api.Errno{api.ErrNone, api.ErrNone}},
		{func(kind int) (api.Space, api.Errno) { return space.Move(s, kind, "b", "B") }, [2]api.Space{}, [2]api.Errno{api.ErrForm, api.ErrForm}},
		{func(kind int) (api.Space, api.Errno) { return space.Move(s, kind, "z", "B") }, [2]api.Space{}, [2]api.Errno{api.ErrForm, api.ErrForm}},
		{func(kind int) (api.Space, api.Errno) { return space.Move(s, kind, "B", "z") }, [2]api.Space{}, [2]api.Errno{api.ErrForm, api.ErrForm}},
	} {
		for k, kind := range kinds {
			got, e := y.of(kind)
			makes(t, string(rune('A'+i)), got, e, y.want[k], y.e[k])
		}
	}
}

// P7.2: a list that is full takes no more entries, whatever the other one has.
func TestChangingFull(t *testing.T) {
	room, full := many("m", space.MaxEntries-1), many("m", space.MaxEntries)
	for k, kind := range kinds {
		with := func(l, other []api.Entry) api.Space {
			if k == 0 {
				return api.Space{Terms: l, Types: other}
			}
			return api.Space{Terms: other, Types: l}
		}
		last := full[space.MaxEntries-1]
		got, e := space.Add(with(room, full), kind, last.Path, last.Sum)
		makes(t, "Add", got, e, with(full, full), api.OK)
		got, e = space.Add(with(full, room), kind, "zz", x(1))
		makes(t, "Add", got, e, api.Space{}, api.ErrFull)
		got, e = space.Add(with(full, nil), kind, "a", x(1))
		makes(t, "Add", got, e, api.Space{}, api.ErrFull)
		got, e = space.Add(with(full, nil), kind, last.Path, x(1))
		makes(t, "Add", got, e, api.Space{}, api.ErrTwice)
		got, e = space.Set(with(full, full), kind, last.Path, x(0))
		makes(t, "Set", got, e, with(append(slices.Clone(room), api.Entry{Path: last.Path}), full), api.OK)
		got, e = space.Drop(with(full, full), kind, last.Path)
		makes(t, "Drop", got, e, with(room, full), api.OK)
		got, e = space.Move(with(full, full), kind, last.Path, "zz")
		makes(t, "Move", got, e, with(append(slices.Clone(room), api.Entry{Path: "zz", Sum: last.Sum}), full), api.OK)
	}
}
