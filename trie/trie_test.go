package trie_test

import (
	"slices"
	"strings"
	"testing"

	"hoarstone/api"
	"hoarstone/trie"
)

// long is a name of one byte too many.
var long = strings.Repeat("x", trie.MaxKey+1)

// The chapter's examples.
func TestExamples(t *testing.T) {
	two, one := way(t, from(t, words("ab", "ac")), "ab"), way(t, from(t, words("a", "ab")), "a")
	leaf := hash(trie.Step{Has: true, Sum: of("ab")})
	if len(two) != 2 || two[0].Stem != "a" || two[0].Has || string(two[0].Bytes) != "bc" || two[0].Nodes[0] != leaf ||
		!sameStep(two[1], trie.Step{Has: true, Sum: of("ab")}) {
		t.Error(two)
	}
	if len(one) != 1 || !sameStep(one[0], trie.Step{Stem: "a", Has: true, Sum: of("a"), Bytes: []byte("b"), Nodes: []api.Sum{leaf}}) {
		t.Error(one)
	}
	empty := of("")
	if root := trie.Root(from(t, plain{"": empty})); root != of("\x00\x01"+string(empty[:])+"\x00\x00") {
		t.Error(root)
	}
	if root := trie.Root(trie.Map{}); root != empty {
		t.Error(root)
	}
	m := put(t, put(t, trie.Map{}, "b", of("b")), "a", of("a"))
	again := put(t, drop(t, m, "b"), "b", of("b"))
	if !slices.Equal(trie.Names(m), []string{"a", "b"}) || trie.Root(again) != trie.Root(m) {
		t.Error(trie.Names(m), trie.Names(again))
	}
	if none, e := trie.Drop(m, "c"); !isEmpty(none) || e != api.ErrNone {
		t.Error(trie.Names(none), e)
	}
}

// P3.1: each kind of map has what it was made of, made at once or name by name, in either order.
func TestMaps(t *testing.T) {
	for kind, p := range shapes() {
		holds(t, from(t, p), p)
		var up, down trie.Map
		for _, name := range p.names() {
			up = put(t, up, name, p[name])
		}
		for _, name := range slices.Backward(p.names()) {
			down = put(t, down, name, p[name])
		}
		holds(t, up, p)
		holds(t, down, p)
		if !trie.Same(up, down) || !trie.Same(up, from(t, p)) {
			t.Error(kind)
		}
		for _, name := range p.names() {
			down = drop(t, down, name)
			if _, e := trie.Get(down, name); e != api.ErrNone {
				t.Errorf("%s: %q is still there", kind, name)
			}
		}
		if !isEmpty(down) || down != (trie.Map{}) {
			t.Error(kind, trie.Names(down))
		}
	}
}

// P3.1: names are put, put once more, and dropped, in whatever order, and the map is that of a plain one.
func TestPutAndDrop(t *testing.T) {
	r := seeded(1)
	for range 40 {
		var m trie.Map
		p := plain{}
		for range 60 {
			name, x := name(r), digest(r)
			if r.IntN(3) > 0 {
				m, p[name] = put(t, m, name, x), x
			} else if _, is := p[name]; is {
				delete(p, name)
				m = drop(t, m, name)
			} else if none, e := trie.Drop(m, name); !isEmpty(none) || e != api.ErrNone {
				t.Errorf("Drop %q: %d", name, e)
			}
			holds(t, m, p)
		}
	}
}

// P3.1: no name, and every name that is too long, has no digest.
func TestGetNone(t *testing.T) {
	for kind, p := range shapes() {
		m := from(t, p)
		for _, name := range []string{long, strings.Repeat("a", 61), strings.Repeat("a", 70000), "cats", "ca", "abdx", "aa~", "\xc3\xa9x"} {
			x, e := trie.Get(m, name)
			n, f := trie.Drop(m, name)
			if x != (api.Sum{}) || e != api.ErrNone || !isEmpty(n) || f != api.ErrNone {
				t.Errorf("%s: %.70q: %d, %d", kind, name, e, f)
			}
		}
	}
	if x, e := trie.Get(trie.Map{}, ""); x != (api.Sum{}) || e != api.ErrNone {
		t.Error(x, e)
	}
}

// P3.1: the errors of Put, in their order, and what is still put.
func TestPutErrors(t *testing.T) {
	full := from(t, words(many(0, trie.MaxNames)...))
	room := from(t, words(many(0, trie.MaxNames-1)...))
	for i, x := range []struct {
		m    trie.Map
		name string
		e    api.Errno
	}{
		{trie.Map{}, long, api.ErrLong}, {trie.Map{}, strings.Repeat("x", 70000), api.ErrLong}, {trie.Map{}, long[1:], api.OK}, {trie.Map{}, "", api.OK},
		{full, long, api.ErrLong}, {full, "zz", api.ErrFull}, {full, "", api.ErrFull}, {full, "aa", api.ErrFull}, {full, "aaa", api.OK}, {full, "fjj", api.OK},
		{room, "zz", api.OK}, {room, long, api.ErrLong}, {drop(t, full, "abc"), "abd", api.OK}, {drop(t, full, "abc"), "abc", api.OK},
	} {
		m, e := trie.Put(x.m, x.name, of("new"))
		if e != x.e || e != api.OK && !isEmpty(m) {
			t.Error(i, e, trie.Many(m))
		}
		if y, f := trie.Get(m, x.name); e == api.OK && (y != of("new") || f != api.OK) {
			t.Error(i, y, f)
		}
	}
	holds(t, full, words(many(0, trie.MaxNames)...))
}

// P3.1: the errors of From, in their order: lists of unlike lengths, too many names, and name by name.
func TestFromErrors(t *testing.T) {
	most := many(0, trie.MaxNames)
	for i, x := range []struct {
		names []string
		sums  int
		e     api.Errno
	}{
		{nil, 0, api.OK}, {[]string{"b", "a", ""}, 3, api.OK}, {most, trie.MaxNames, api.OK}, {[]string{long[1:]}, 1, api.OK},
		{nil, 1, api.ErrClash}, {[]string{"a"}, 0, api.ErrClash}, {[]string{long, "a", "a"}, 2, api.ErrClash}, {append(slices.Clone(most), "zz"), trie.MaxNames, api.ErrClash}, {append(slices.Clone(most), "zz", "zy"), trie.MaxNames + 1, api.ErrClash},
		{append(slices.Clone(most), "zz"), trie.MaxNames + 1, api.ErrFull}, {append(slices.Clone(most), "aaa"), trie.MaxNames + 1, api.ErrFull}, {append([]string{long}, most...), trie.MaxNames + 1, api.ErrFull},
		{[]string{long}, 1, api.ErrLong}, {[]string{"a", long, "a"}, 3, api.ErrLong}, {[]string{"a", "b", "a", long}, 4, api.ErrTwice}, {[]string{long, long}, 2, api.ErrLong},
		{[]string{"a", "a"}, 2, api.ErrTwice}, {[]string{"", "b", ""}, 3, api.ErrTwice}, {append(slices.Clone(most[1:]), "aab"), trie.MaxNames, api.ErrTwice},
	} {
		m, e := trie.From(x.names, make([]api.Sum, x.sums))
		if e != x.e || e != api.OK && !isEmpty(m) || e == api.OK && trie.Many(m) != x.sums {
			t.Error(i, e, trie.Many(m))
		}
	}
}

// P3.1: maps are the same if their names and digests are.
func TestSame(t *testing.T) {
	r := seeded(2)
	for range 500 {
		p := some(r, 8)
		q := near(r, p)
		want := len(p.diff(q)) == 0
		a, b := from(t, p), from(t, q)
		if trie.Same(a, b) != want || trie.Same(b, a) != want || !trie.Same(a, a) || !trie.Same(a, from(t, p)) {
			t.Errorf("%q, %q", p.names(), q.names())
		}
	}
	zero := plain{"a": api.Sum{}}
	if trie.Same(from(t, zero), trie.Map{}) || trie.Same(from(t, zero), from(t, words("a"))) || !trie.Same(trie.Map{}, trie.Map{}) {
		t.Error("a digest that is zero")
	}
}

// P3.2: roots are those that the chapter's words tell, by hand and for maps of all kinds.
func TestRoot(t *testing.T) {
	leaf := func(stem, text string) api.Sum { return hash(trie.Step{Stem: stem, Has: true, Sum: of(text)}) }
	for i, x := range []struct {
		p    plain
		want api.Sum
	}{
		{words(), of("")},
		{words("cat"), leaf("cat", "cat")},
		{words("ab", "ac"), hash(trie.Step{Stem: "a", Bytes: []byte("bc"), Nodes: []api.Sum{leaf("", "ab"), leaf("", "ac")}})},
		{words("", "long"), hash(trie.Step{Has: true, Sum: of(""), Bytes: []byte("l"), Nodes: []api.Sum{leaf("ong", "long")}})},
		{words("x1", "x", "x22", "x23"), hash(trie.Step{Stem: "x", Has: true, Sum: of("x"), Bytes: []byte("12"), Nodes: []api.Sum{leaf("", "x1"),
			hash(trie.Step{Bytes: []byte("23"), Nodes: []api.Sum{leaf("", "x22"), leaf("", "x23")}})}})},
		{words("é", "è"), hash(trie.Step{Stem: "\xc3", Bytes: []byte("\xa8\xa9"), Nodes: []api.Sum{leaf("", "è"), leaf("", "é")}})},
		{words("\xff\x01", "\xff\x00"), hash(trie.Step{Stem: "\xff", Bytes: []byte("\x00\x01"), Nodes: []api.Sum{leaf("", "\xff\x00"), leaf("", "\xff\x01")}})},
	} {
		if root := trie.Root(from(t, x.p)); root != x.want || x.p.root() != x.want {
			t.Error(i, root)
		}
	}
	for kind, p := range shapes() {
		if trie.Root(from(t, p)) != p.root() {
			t.Error(kind)
		}
	}
	r := seeded(3)
	for range 300 {
		p := some(r, 30)
		if trie.Root(from(t, p)) != p.root() {
			t.Errorf("%q", p.names())
		}
	}
}
