package space_test

import (
	"slices"
	"testing"

	"hoarstone/api"
	"hoarstone/space"
)

// spare returns a copy of a list, with room behind its end that has something in it.
func spare[T any](l []T, more ...T) []T {
	all := slices.Concat(l, more)
	return all[:len(l)]
}

// whole returns all memory that a list has.
func whole[T any](l []T) []T { return l[:cap(l)] }

// kept tells a test if the memory of a list is not what it was.
func kept[T comparable](t *testing.T, what string, l, was []T) {
	t.Helper()
	if !slices.Equal(whole(l), was) {
		t.Errorf("%s: an argument was changed, or is shared", what)
	}
}

// R4, R5: no function with namespaces changes one, or shares memory with it; its two lists share none; and another call returns the same.
func TestMemory(t *testing.T) {
	more := api.Entry{Path: "spare", Sum: x(99)}
	given := both(terms("a", 1, "a.b", 2, "b", 3, "m.a", 1), types("a", 1, "a.b", 2, "b", 3, "m.a", 1))
	s := api.Space{Terms: spare(given.Terms, more, more), Types: spare(given.Types, more, more)}
	other := api.Space{Terms: s.Types, Types: s.Terms}
	changes := spare([]space.Change{{Kind: 1, Path: "a", Had: true, Old: x(1)}, {Kind: 2, Path: "c", Has: true, New: x(1)}}, space.Change{Path: "spare"})
	was, wasTypes, wasChanges := slices.Clone(whole(s.Terms)), slices.Clone(whole(s.Types)), slices.Clone(whole(changes))
	spaces := map[string]func() (api.Space, api.Errno){
		"Apply": func() (api.Space, api.Errno) { return space.Apply(s, changes) }, "Apply of nothing": func() (api.Space, api.Errno) { return space.Apply(s, nil) },
		"Under": func() (api.Space, api.Errno) { return space.Under(s, "a") }, "Into": func() (api.Space, api.Errno) { return space.Into(s, "z", other) }, "Into itself": func() (api.Space, api.Errno) { return space.Into(s, "z", s) }, "Into of nothing": func() (api.Space, api.Errno) { return space.Into(s, "z", api.Space{}) },
	}
	lists := map[string]func() ([]api.Entry, api.Errno){}
	for i, kind := range kinds {
		name := []string{" terms", " types"}[i]
		spaces["Add"+name] = func() (api.Space, api.Errno) { return space.Add(s, kind, "aa", x(1)) }
		spaces["Add at the end"+name] = func() (api.Space, api.Errno) { return space.Add(s, kind, "z", x(1)) }
		spaces["Set"+name] = func() (api.Space, api.Errno) { return space.Set(s, kind, "a", x(7)) }
		spaces["Drop"+name] = func() (api.Space, api.Errno) { return space.Drop(s, kind, "a") }
		spaces["Move"+name] = func() (api.Space, api.Errno) { return space.Move(s, kind, "b", "a.a") }
		lists["Find"+name] = func() ([]api.Entry, api.Errno) { return space.Find(s, kind, "b") }
		lists["Find of ends"+name] = func() ([]api.Entry, api.Errno) { return space.Find(s, kind, "a") }
	}
	check := func(what string) {
		t.Helper()
		kept(t, what, s.Terms, was)
		kept(t, what, s.Types, wasTypes)
		kept(t, what, changes, wasChanges)
	}
	for what, call := range spaces {
		first, e := call()
		second, _ := call()
		check(what)
		makes(t, what, first, e, second, api.OK)
		copied := slices.Clone(first.Types)
		clear(whole(first.Terms))
		tells(t, what, first.Types, e, copied, api.OK)
		clear(whole(first.Types))
		check(what)
		third, _ := call()
		makes(t, what, third, e, second, api.OK)
	}
	for what, call := range lists {
		first, e := call()
		second, _ := call()
		tells(t, what, first, e, second, api.OK)
		clear(whole(first))
		check(what)
		third, _ := call()
		tells(t, what, third, e, second, api.OK)
	}
	_, e := space.Diff(s, other)
	_, f := space.Root(s)
	_, g := space.Name(s, api.OfTerm, x(1))
	same(t, "Diff, Root, Name", [2]api.Errno{e, f}, g, [2]api.Errno{}, api.OK)
	check("Diff, Root, Name")
}

// R4, R5: no function with histories changes one, or shares memory with it.
func TestHistoryMemory(t *testing.T) {
	l, sums := web{nil, {0}, {0}, {1, 2}}.commits()
	l = spare(l, commit("spare"))
	var parents [][]api.Sum
	for i := range l {
		l[i].Parents = spare(l[i].Parents, x(98), x(99))
		parents = append(parents, slices.Clone(whole(l[i].Parents)))
	}
	for range 2 {
		for _, call := range []func() ([]api.Sum, api.Errno){
			func() ([]api.Sum, api.Errno) { return space.History(l) }, func() ([]api.Sum, api.Errno) { return space.Ancestors(l, sums[3]) }, func() ([]api.Sum, api.Errno) { return space.Bases(l, sums[3], sums[3]) },
		} {
			got, e := call()
			again, _ := call()
			tells(t, "again", again, e, got, api.OK)
			clear(whole(got))
			for i, c := range l {
				kept(t, "parents", c.Parents, parents[i])
				_, e := space.Commit(c)
				kept(t, "Commit", c.Parents, parents[i])
				same(t, "Commit", e, e, api.OK, api.OK)
			}
			third, _ := call()
			tells(t, "again", third, e, again, api.OK)
		}
	}
	if got := l[:5][4]; got.Note != "spare" {
		t.Error(got)
	}
	path := "a.b"
	first, _ := space.Path(path)
	clear(whole(first))
	second, e := space.Path(path)
	tells(t, "Path", second, e, []string{"a", "b"}, api.OK)
}

// R3: empty lists and nil ones are the same.
func TestEmptyLists(t *testing.T) {
	empty := api.Space{Terms: []api.Entry{}, Types: []api.Entry{}}
	root, e := space.Root(api.Space{})
	got, f := space.Root(empty)
	same(t, "Root", got, f, root, e)
	l, e := space.Diff(empty, api.Space{})
	tells(t, "Diff", l, e, nil, api.OK)
	s, e := space.Into(empty, "a.b.c.d.e", empty)
	makes(t, "Into", s, e, api.Space{}, api.OK)
	s, e = space.Apply(empty, []space.Change{})
	makes(t, "Apply", s, e, api.Space{}, api.OK)
	sums, e := space.History([]api.Commit{})
	tells(t, "History", sums, e, nil, api.OK)
	with, without := commit("n"), api.Commit{Note: "n", Parents: []api.Sum{}}
	sum, e := space.Commit(with)
	again, f := space.Commit(without)
	same(t, "Commit", again, f, sum, e)
}
