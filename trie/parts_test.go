package trie_test

import (
	"maps"
	"slices"
	"strings"
	"testing"

	"hoarstone/api"
	"hoarstone/trie"
)

// The chapter's example of Diff and Below.
func TestPartsExamples(t *testing.T) {
	l := trie.Diff(from(t, words("a")), from(t, words("b")))
	if !slices.Equal(l, []trie.Change{{Name: "a", Had: true, Old: of("a")}, {Name: "b", Has: true, New: of("b")}}) {
		t.Error(l)
	}
	m, e := trie.Below(from(t, words("ab", "ac")), "a")
	if e != api.OK {
		t.Error(e)
	}
	holds(t, m, plain{"b": of("ab"), "c": of("ac")})
}

// P3.3: what is below a text, whether it ends in a stem, at its end, at a branch, or nowhere.
func TestBelow(t *testing.T) {
	kinds := shapes()
	r := seeded(4)
	for range 40 {
		p := some(r, 20)
		kinds[strings.Join(p.names(), ",")] = p
	}
	for kind, p := range kinds {
		m := from(t, p)
		for _, begin := range append(asked(p), long, "é"[:1], "aaa", "ab") {
			below, e := trie.Below(m, begin)
			want := p.below(begin)
			if len(want) == 0 {
				if e != api.ErrNone || !isEmpty(below) {
					t.Errorf("%s: %q: %d", kind, begin, e)
				}
				continue
			}
			if e != api.OK || !slices.Equal(trie.Names(below), want.names()) || trie.Root(below) != want.root() || trie.Many(below) != len(want) {
				t.Errorf("%s: %q: %d, %q", kind, begin, e, trie.Names(below))
			}
		}
	}
	m, e := trie.Below(from(t, words("", "aé", "aè", "b")), "a")
	if e != api.OK {
		t.Error(e)
	}
	holds(t, m, plain{"é": of("aé"), "è": of("aè")})
}

// P3.3: the names of two maps in one.
func TestUnion(t *testing.T) {
	r := seeded(5)
	for range 300 {
		p, q := some(r, 6), some(r, 6)
		both, twice := maps.Clone(p), false
		for name, x := range q {
			_, is := p[name]
			both[name], twice = x, twice || is
		}
		m, e := trie.Union(from(t, p), from(t, q))
		switch {
		case !twice && e == api.OK:
			holds(t, m, both)
		case !twice || e != api.ErrTwice || !isEmpty(m):
			t.Errorf("%q, %q: %d", p.names(), q.names(), e)
		}
	}
}

// P3.3: the errors of Union, in their order.
func TestUnionErrors(t *testing.T) {
	part := func(from, n int) []string { return many(from, n) }
	for i, x := range []struct {
		a, b []string
		e    api.Errno
	}{
		{nil, nil, api.OK}, {part(0, 300), part(300, 300), api.OK}, {part(0, 600), nil, api.OK}, {nil, part(0, 600), api.OK},
		{part(0, 300), part(300, 301), api.ErrFull}, {part(0, 600), []string{""}, api.ErrFull}, {part(0, 600), part(600, 400), api.ErrFull},
		{part(0, 300), part(299, 302), api.ErrTwice}, {part(0, 600), part(0, 600), api.ErrTwice}, {part(0, 600), part(599, 400), api.ErrTwice}, {[]string{""}, []string{"a", ""}, api.ErrTwice},
	} {
		a, b := from(t, words(x.a...)), from(t, words(x.b...))
		m, e := trie.Union(a, b)
		if e != x.e || e != api.OK && !isEmpty(m) || e == api.OK && trie.Many(m) != len(x.a)+len(x.b) {
			t.Error(i, e, trie.Many(m))
		}
		if n, f := trie.Union(b, a); f != e || !trie.Same(m, n) {
			t.Error(i, f, trie.Many(n))
		}
	}
}

// P3.3: Diff tells what differs, rising, and Apply does it.
func TestDiffAndApply(t *testing.T) {
	r := seeded(6)
	for range 400 {
		p := some(r, 12)
		q := near(r, p)
		if r.IntN(4) == 0 {
			q = some(r, 12)
		}
		a, b := from(t, p), from(t, q)
		l := trie.Diff(a, b)
		if !slices.Equal(l, p.diff(q)) {
			t.Errorf("%q, %q: %v", p.names(), q.names(), l)
		}
		c, e := trie.Apply(a, l)
		if e != api.OK {
			t.Errorf("%q, %q: %d", p.names(), q.names(), e)
		}
		holds(t, c, q)
	}
	zero := from(t, plain{"a": api.Sum{}})
	if l := trie.Diff(zero, trie.Map{}); !slices.Equal(l, []trie.Change{{Name: "a", Had: true}}) {
		t.Error(l)
	}
	if l := trie.Diff(trie.Map{}, zero); !slices.Equal(l, []trie.Change{{Name: "a", Has: true}}) {
		t.Error(l)
	}
	if l := trie.Diff(zero, zero); len(l) != 0 {
		t.Error(l)
	}
}

// added, changed and gone are changes of a name that has, or gets, the digest of its own bytes.
func added(name string) trie.Change { return trie.Change{Name: name, Has: true, New: of(name)} }
func changed(name string) trie.Change {
	return trie.Change{Name: name, Had: true, Has: true, Old: of(name), New: of("new")}
}
func gone(name string) trie.Change { return trie.Change{Name: name, Had: true, Old: of(name)} }

// P3.3: changes of each form, and with each fault, the first change that has one deciding, and in it the first fault.
func TestApply(t *testing.T) {
	full := many(0, trie.MaxNames)
	none := trie.Change{Name: "a"}
	for i, x := range []struct {
		names []string
		l     []trie.Change
		want  []string
		e     api.Errno
	}{
		{[]string{"a"}, nil, []string{"a"}, api.OK}, {nil, []trie.Change{added("a"), added(""), gone("a")}, []string{""}, api.OK}, {[]string{"a"}, []trie.Change{gone("a")}, nil, api.OK},
		{[]string{"a"}, []trie.Change{{Name: "a", Had: true, Has: true, Old: of("a"), New: of("a")}}, []string{"a"}, api.OK}, {[]string{"a"}, []trie.Change{gone("a"), added("a"), gone("a"), added("a")}, []string{"a"}, api.OK},
		{nil, []trie.Change{none}, nil, api.ErrForm}, {nil, []trie.Change{{}}, nil, api.ErrForm}, {[]string{"a"}, []trie.Change{none}, nil, api.ErrForm}, {nil, []trie.Change{{Name: long}}, nil, api.ErrForm},
		{nil, []trie.Change{{Name: "a", Has: true, Old: of("a"), New: of("a")}}, nil, api.ErrForm}, {[]string{"a"}, []trie.Change{{Name: "a", Had: true, Old: of("a"), New: of("a")}}, nil, api.ErrForm},
		{nil, []trie.Change{{Name: "a", Old: of("a")}}, nil, api.ErrForm}, {nil, []trie.Change{{Name: long, Has: true, Old: api.Sum{31: 1}}}, nil, api.ErrForm}, {nil, []trie.Change{{Name: "a", Had: true, New: api.Sum{31: 1}}}, nil, api.ErrForm},
		{nil, []trie.Change{added(long)}, nil, api.ErrLong}, {nil, []trie.Change{gone(long)}, nil, api.ErrLong}, {full, []trie.Change{added(long)}, nil, api.ErrLong},
		{nil, []trie.Change{gone("a")}, nil, api.ErrClash}, {nil, []trie.Change{changed("a")}, nil, api.ErrClash}, {[]string{"a"}, []trie.Change{added("a")}, nil, api.ErrClash}, {[]string{"a"}, []trie.Change{{Name: "a", Had: true, Old: of("b")}}, nil, api.ErrClash},
		{[]string{"a"}, []trie.Change{{Name: "a", Had: true}}, nil, api.ErrClash}, {nil, []trie.Change{{Name: "a", Had: true}}, nil, api.ErrClash}, {[]string{"a"}, []trie.Change{changed("a"), gone("a")}, nil, api.ErrClash}, {full, []trie.Change{added("aaa")}, nil, api.ErrClash},
		{full, []trie.Change{added("zz")}, nil, api.ErrFull}, {full, []trie.Change{added("zz"), gone("aaa")}, nil, api.ErrFull}, {full, []trie.Change{gone("aaa"), added("aaa")}, full, api.OK}, {full[1:], []trie.Change{added("aaa"), added("")}, nil, api.ErrFull},
		{nil, []trie.Change{added("a"), added(long), none}, nil, api.ErrLong}, {nil, []trie.Change{added("a"), added("a"), none}, nil, api.ErrClash}, {nil, []trie.Change{added("a"), none, added("a")}, nil, api.ErrForm}, {full, []trie.Change{added("zz"), none}, nil, api.ErrFull},
	} {
		m, e := trie.Apply(from(t, words(x.names...)), x.l)
		if e != x.e || e != api.OK && !isEmpty(m) {
			t.Error(i, e)
		}
		if e == api.OK && !trie.Same(m, from(t, words(x.want...))) {
			t.Error(i, trie.Names(m))
		}
	}
	m, e := trie.Apply(from(t, words(full...)), []trie.Change{changed("abc")})
	x, f := trie.Get(m, "abc")
	if e != api.OK || trie.Many(m) != trie.MaxNames || x != of("new") || f != api.OK {
		t.Error(e, x, f)
	}
}
