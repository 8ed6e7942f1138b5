package trie_test

import (
	"bytes"
	"maps"
	"slices"
	"testing"

	"hoarstone/api"
	"hoarstone/trie"
)

// P3.6: however a map came about, its root and its bytes are those of what is in it.
func TestHoweverItCameAbout(t *testing.T) {
	r := seeded(20)
	for range 200 {
		p := some(r, 10)
		m := from(t, some(r, 10))
		for range 30 {
			m = put(t, m, name(r), digest(r))
		}
		for name, x := range p {
			m = put(t, m, name, x)
		}
		for _, name := range trie.Names(m) {
			if _, is := p[name]; !is {
				m = drop(t, m, name)
			}
		}
		holds(t, m, p)
		if !sameWay(way(t, m, "ab"), way(t, from(t, p), "ab")) {
			t.Errorf("%q", p.names())
		}
	}
}

// P3.6: of all maps of few names, with each of two digests, no two have the same root, or the same bytes; and each is told by its ways, and by no others.
func TestAllSmallMaps(t *testing.T) {
	names := []string{"", "a", "b", "aa", "ab", "a\x00", "é"}
	sums := []api.Sum{{}, of("x")}
	met, written := map[api.Sum]bool{}, map[string]bool{}
	all := 1
	for range names {
		all *= len(sums) + 1
	}
	for n := range all {
		p := plain{}
		for _, name := range names {
			if k := n % (len(sums) + 1); k > 0 {
				p[name] = sums[k-1]
			}
			n /= len(sums) + 1
		}
		m := from(t, p)
		root := trie.Root(m)
		met[root], written[string(trie.Encode(m))] = true, true
		for _, name := range names {
			want, is := p[name]
			accepted(t, name, root, name, way(t, m, name), want, is)
		}
	}
	if len(met) != all || len(written) != all {
		t.Error(all, len(met), len(written))
	}
}

// P3.6: the ways of another map are refused for the root, but for those that are the same.
func TestWaysOfOtherMaps(t *testing.T) {
	r := seeded(21)
	for range 200 {
		p := some(r, 8)
		q := near(r, p)
		a, b := from(t, p), from(t, q)
		for _, name := range asked(p) {
			w, v := way(t, a, name), way(t, b, name)
			want, is := p[name]
			switch {
			case sameWay(w, v):
				accepted(t, name, trie.Root(a), name, v, want, is)
			default:
				refused(t, name, trie.Root(a), name, v)
			}
		}
	}
}

// P3.6: Diff is nothing just if the roots are the same, and Apply of it leads from one map to the other one, in small steps and in large ones.
func TestDiffAndRoots(t *testing.T) {
	r := seeded(22)
	for range 400 {
		p := some(r, 8)
		q := near(r, p)
		a, b := from(t, p), from(t, q)
		l := trie.Diff(a, b)
		if (len(l) == 0) != (trie.Root(a) == trie.Root(b)) || (len(l) == 0) != trie.Same(a, b) {
			t.Errorf("%q, %q: %v", p.names(), q.names(), l)
		}
	}
	for _, p := range shapes() {
		for _, q := range shapes() {
			a, b := from(t, p), from(t, q)
			c, e := trie.Apply(a, trie.Diff(a, b))
			// On the way there may be more names than in either map.
			if e == api.ErrFull && len(p)+len(q) > trie.MaxNames {
				continue
			}
			if e != api.OK || !trie.Same(c, b) || trie.Root(c) != trie.Root(b) {
				t.Error(len(p), len(q), e)
			}
		}
	}
}

// P3.6: Below and Union put apart and together.
func TestApartAndTogether(t *testing.T) {
	r := seeded(23)
	for range 200 {
		p := some(r, 15)
		m := from(t, p)
		var back trie.Map
		if x, e := trie.Get(m, ""); e == api.OK {
			back = put(t, back, "", x)
		}
		for b := range 256 {
			begin := string([]byte{byte(b)})
			below, e := trie.Below(m, begin)
			if e == api.ErrNone {
				continue
			}
			part := plain{}
			for _, name := range trie.Names(below) {
				part[begin+name], _ = trie.Get(below, name)
			}
			next, e := trie.Union(back, from(t, part))
			if e != api.OK {
				t.Fatal(e)
			}
			back = next
		}
		holds(t, back, p)
	}
}

// P3.6: what is decoded is what was encoded, and no other bytes are read to it.
func TestReadAsWritten(t *testing.T) {
	r := seeded(24)
	for range 300 {
		m := from(t, some(r, 10))
		b := trie.Encode(m)
		n, at, e := trie.Decode(b)
		if at != 0 || e != api.OK || !trie.Same(m, n) || trie.Root(m) != trie.Root(n) || !bytes.Equal(trie.Encode(n), b) {
			t.Errorf("%q: %d at %d", b, e, at)
		}
	}
	for range 3000 {
		b := framed(r.IntN(3), named(name(r)), named(name(r)))
		decodes(t, b)
		decodes(t, b[:r.IntN(len(b)+1)])
	}
}

// P3.6: old maps stay as they were, whatever is made of them.
func TestOldMapsStay(t *testing.T) {
	r := seeded(25)
	maps, plains := []trie.Map{{}}, []plain{{}}
	for range 300 {
		i, j := r.IntN(len(maps)), r.IntN(len(maps))
		m, name := maps[i], name(r)
		next, p := m, plains[i].below("")
		switch r.IntN(6) {
		case 0:
			if n, e := trie.Drop(m, name); e == api.OK {
				next = n
				delete(p, name)
			}
		case 1:
			if n, e := trie.Below(m, name); e == api.OK {
				next, p = n, p.below(name)
			}
		case 2:
			if n, e := trie.Union(m, maps[j]); e == api.OK {
				next = n
				for name, x := range plains[j] {
					p[name] = x
				}
			}
		case 3:
			n, e := trie.Apply(m, trie.Diff(m, maps[j]))
			if e != api.OK {
				t.Fatal(e)
			}
			next, p = n, plains[j].below("")
		default:
			x := digest(r)
			next, p[name] = put(t, m, name, x), x
		}
		maps, plains = append(maps, next), append(plains, p)
	}
	for i, m := range maps {
		holds(t, m, plains[i])
		for _, name := range append(plains[i].names(), "a", "") {
			if !sameWay(way(t, m, name), plains[i].way(name)) {
				t.Errorf("%q in %q", name, plains[i].names())
			}
		}
	}
}

// R4: what is given is neither changed nor kept, and results can be changed without changing anything else.
func TestMemory(t *testing.T) {
	p := words("a", "ab", "abc", "ad", "b", "é", "è")
	names := p.names()
	var sums []api.Sum
	for _, name := range names {
		sums = append(sums, p[name])
	}
	m, e := trie.From(names, sums)
	if e != api.OK || !slices.Equal(names, p.names()) {
		t.Fatal(e, names)
	}
	clear(names)
	clear(sums)
	holds(t, m, p)

	clear(trie.Names(m))
	clear(trie.Encode(m))
	clear(trie.Diff(m, trie.Map{}))
	holds(t, m, p)

	b := trie.Encode(m)
	n, _, e := trie.Decode(b)
	if e != api.OK || !bytes.Equal(b, p.bytes()) {
		t.Fatal(e)
	}
	clear(b)
	holds(t, n, p)

	q := maps.Clone(p)
	delete(q, "ab")
	q["new"] = of("new")
	l := trie.Diff(m, from(t, q))
	kept := slices.Clone(l)
	c, e := trie.Apply(m, l)
	if e != api.OK || !slices.Equal(l, kept) {
		t.Error(e, l)
	}
	clear(l)
	holds(t, c, q)
	holds(t, m, p)
}

// R4: ways share nothing with maps, with one another, or within themselves, and Verify leaves them as they are.
func TestWayMemory(t *testing.T) {
	p := words("a", "ab", "abc", "ad", "b", "é", "è")
	m := from(t, p)
	for _, name := range p.names() {
		first, second := way(t, m, name), way(t, m, name)
		want := p.way(name)
		accepted(t, name, trie.Root(m), name, first, p[name], true)
		if !sameWay(first, want) {
			t.Errorf("%q was changed by Verify", name)
		}
		for i := range first {
			clear(first[i].Bytes)
			clear(first[i].Nodes)
			_ = append(first[i].Bytes, 9)
			_ = append(first[i].Nodes, of("9"))
			if !sameWay(first[i+1:], want[i+1:]) {
				t.Errorf("%q: the steps share memory", name)
			}
		}
		if !sameWay(second, want) || !sameWay(way(t, m, name), want) {
			t.Errorf("%q: the ways share memory", name)
		}
	}
	holds(t, m, p)
}
