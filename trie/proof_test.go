package trie_test

import (
	"fmt"
	"math/rand/v2"
	"slices"
	"strings"
	"testing"

	"hoarstone/api"
	"hoarstone/trie"
)

// refused tells where a way is not refused.
func refused(t *testing.T, what string, root api.Sum, name string, way []trie.Step) {
	t.Helper()
	if x, is, e := trie.Verify(root, name, way); x != (api.Sum{}) || is || e != api.ErrWrong {
		t.Errorf("%s: %x, %v, %d", what, x, is, e)
	}
}

// accepted tells where a way does not say what it should.
func accepted(t *testing.T, what string, root api.Sum, name string, way []trie.Step, want api.Sum, has bool) {
	t.Helper()
	if x, is, e := trie.Verify(root, name, way); x != want || is != has || e != api.OK {
		t.Errorf("%s: %x, %v, %d", what, x, is, e)
	}
}

// The chapter's example of ways.
func TestWayExamples(t *testing.T) {
	m := from(t, words("ab", "ac"))
	for name, long := range map[string]int{"ad": 1, "ab": 2, "": 1, "a": 1, "abc": 2, "b": 1} {
		w := way(t, m, name)
		if len(w) != long {
			t.Error(name, w)
		}
		want, e := trie.Get(m, name)
		accepted(t, name, trie.Root(m), name, w, want, e == api.OK)
	}
}

// P3.4: ways are those of the chapter's words, and are accepted.
func TestWays(t *testing.T) {
	kinds := shapes()
	// Plain ways are slow: parts of the great maps will do.
	kinds["full"], kinds["fan"], kinds["tower"] = words(many(95, 20)...), words(fan()[240:]...), words(tower()[40:]...)
	r := seeded(8)
	for range 30 {
		p := some(r, 15)
		kinds[fmt.Sprintf("%q", p.names())] = p
	}
	for kind, p := range kinds {
		m := from(t, p)
		for _, name := range asked(p) {
			w := way(t, m, name)
			if !sameWay(w, p.way(name)) {
				t.Errorf("%s: %q: %v", kind, name, w)
			}
			want, is := p[name]
			accepted(t, kind, p.root(), name, w, want, is)
		}
	}
	for name, kind := range map[string]string{strings.Repeat("a", trie.MaxKey): "tower", "\x80": "fan", "": "fan", "cde": "full"} {
		p := shapes()[kind]
		m := from(t, p)
		w := way(t, m, name)
		want, is := p[name]
		if !sameWay(w, p.way(name)) {
			t.Error(kind, len(w))
		}
		accepted(t, kind, p.root(), name, w, want, is)
	}
}

// P3.4: names that are too long, before anything else; and no steps at all.
func TestWayErrors(t *testing.T) {
	m := from(t, words("a", "ab"))
	for _, name := range []string{long, strings.Repeat("a", 70000)} {
		if w, e := trie.Way(m, name); len(w) != 0 || e != api.ErrLong {
			t.Error(w, e)
		}
		for _, w := range [][]trie.Step{nil, way(t, m, "ab"), {{Stem: long}}} {
			if x, is, e := trie.Verify(trie.Root(m), name, w); x != (api.Sum{}) || is || e != api.ErrLong {
				t.Error(x, is, e)
			}
		}
	}
	if w, e := trie.Way(trie.Map{}, ""); len(w) != 0 || e != api.OK {
		t.Error(w, e)
	}
	accepted(t, "no steps", of(""), "a", nil, api.Sum{}, false)
	refused(t, "no steps", trie.Root(m), "a", nil)
	refused(t, "no steps", api.Sum{}, "a", nil)
	refused(t, "a step of nothing", of(""), "a", []trie.Step{{}})
	refused(t, "an empty step", hash(trie.Step{}), "a", []trie.Step{{}})
}

// P3.4: steps that no node is, though the root is the digest of their bytes; and those that are just right.
func TestVerifySteps(t *testing.T) {
	x, two := of("x"), []api.Sum{of("1"), of("2")}
	every := make([]byte, 256)
	for b := range every {
		every[b] = byte(b)
	}
	for i, y := range []struct {
		s  trie.Step
		is bool
	}{
		{trie.Step{Stem: "q", Has: true, Sum: x}, true}, {trie.Step{Stem: long[1:], Has: true, Sum: x}, true}, {trie.Step{Stem: long, Has: true, Sum: x}, false}, {trie.Step{Stem: strings.Repeat("x", 256+1), Has: true, Sum: x}, false},
		{trie.Step{Stem: "q", Has: true}, true}, {trie.Step{Stem: "q", Has: true, Bytes: []byte("b"), Nodes: two[:1]}, true}, {trie.Step{Stem: "q", Has: true, Sum: x, Bytes: []byte("bc"), Nodes: two}, true},
		{trie.Step{Stem: "q", Bytes: []byte("bc"), Nodes: two}, true}, {trie.Step{Stem: "q", Sum: x, Bytes: []byte("bc"), Nodes: two}, false}, {trie.Step{Stem: "q", Sum: api.Sum{31: 1}, Bytes: []byte("bc"), Nodes: two}, false},
		{trie.Step{Stem: "q"}, false}, {trie.Step{Stem: "q", Bytes: []byte("b"), Nodes: two[:1]}, false}, {trie.Step{}, false},
		{trie.Step{Stem: "q", Bytes: []byte("cb"), Nodes: two}, false}, {trie.Step{Stem: "q", Bytes: []byte("bb"), Nodes: two}, false}, {trie.Step{Stem: "q", Has: true, Bytes: []byte("abdc"), Nodes: append(two, two...)}, false}, {trie.Step{Stem: "q", Bytes: []byte{127, 128}, Nodes: two}, true}, {trie.Step{Stem: "q", Bytes: []byte{255, 0}, Nodes: two}, false},
		{trie.Step{Stem: "q", Has: true, Bytes: []byte("bc"), Nodes: two[:1]}, false}, {trie.Step{Stem: "q", Has: true, Bytes: []byte("b"), Nodes: two}, false}, {trie.Step{Stem: "q", Has: true, Nodes: two}, false}, {trie.Step{Stem: "q", Bytes: []byte("bc")}, false}, {trie.Step{Stem: "q", Nodes: two}, false},
		{trie.Step{Stem: "q", Bytes: every, Nodes: make([]api.Sum, 256)}, true}, {trie.Step{Stem: "q", Has: true, Bytes: append(slices.Clone(every), 255), Nodes: make([]api.Sum, 257)}, false}, {trie.Step{Stem: "q", Has: true, Bytes: make([]byte, 65536), Nodes: make([]api.Sum, 65536)}, false},
	} {
		what := fmt.Sprint("step ", i)
		want := api.Sum{}
		if y.s.Has && y.s.Stem == "q" {
			want = y.s.Sum
		}
		if !y.is {
			refused(t, what, hash(y.s), "q", []trie.Step{y.s})
			refused(t, what, hash(y.s), "other", []trie.Step{y.s})
		} else {
			accepted(t, what, hash(y.s), "q", []trie.Step{y.s}, want, y.s.Has && y.s.Stem == "q")
			accepted(t, what, hash(y.s), "other", []trie.Step{y.s}, api.Sum{}, false)
		}
		// The same step behind a good one, which leads to it.
		first := trie.Step{Stem: "p", Has: true, Bytes: []byte("r"), Nodes: []api.Sum{hash(y.s)}}
		if !y.is {
			refused(t, what, hash(first), "prq", []trie.Step{first, y.s})
		} else {
			accepted(t, what, hash(first), "prq", []trie.Step{first, y.s}, want, y.s.Has && y.s.Stem == "q")
		}
	}
}

// P3.4: ways that end too early, go on too far, or are led elsewhere.
func TestVerifyChains(t *testing.T) {
	p := words("a", "ab", "abc", "abd", "b", "ba", "")
	m := from(t, p)
	root := trie.Root(m)
	for _, name := range asked(p) {
		w := way(t, m, name)
		for n := range w {
			refused(t, "too early: "+name, root, name, w[:n])
			refused(t, "twice: "+name, root, name, slices.Insert(slices.Clone(w), n, w[n]))
			refused(t, "less: "+name, root, name, slices.Delete(slices.Clone(w), n, n+1))
			refused(t, "from another node: "+name, hash(w[n]), name, append(slices.Clone(w[:n]), w[n+1:]...))
		}
		for _, other := range asked(p) {
			further := way(t, m, other)
			refused(t, "too far: "+name, root, name, append(slices.Clone(w), further[len(further)-1]))
			if sameWay(w, further) {
				continue
			}
			refused(t, "the way of "+other+": "+name, root, name, further)
		}
		refused(t, "another root: "+name, api.Sum{}, name, w)
		refused(t, "no root: "+name, of(""), name, w)
		root[31] ^= 1
		refused(t, "another root: "+name, root, name, w)
		root[31] ^= 1
	}
	// The digest of the next node is there, but at another branch.
	leaf := trie.Step{Has: true, Sum: of("x")}
	fork := trie.Step{Bytes: []byte("ab"), Nodes: []api.Sum{of("1"), hash(leaf)}}
	refused(t, "another branch", hash(fork), "a", []trie.Step{fork, leaf})
	accepted(t, "the branch", hash(fork), "b", []trie.Step{fork, leaf}, of("x"), true)
	accepted(t, "no branch", hash(fork), "c", []trie.Step{fork}, api.Sum{}, false)
}

// spoiled returns a way with one place changed.
func spoiled(r *rand.Rand, way []trie.Step) []trie.Step {
	l := cloned(way)
	s := &l[r.IntN(len(l))]
	switch i := r.IntN(max(1, len(s.Bytes))); r.IntN(9) {
	case 0:
		s.Stem += "a"
	case 1:
		if s.Stem != "" {
			s.Stem = s.Stem[:len(s.Stem)-1]
		} else {
			s.Stem = "b"
		}
	case 2:
		s.Has = !s.Has
	case 3:
		s.Sum[r.IntN(32)]++
	case 4:
		s.Bytes, s.Nodes = append(s.Bytes, 255), append(s.Nodes, of("x"))
	case 5:
		s.Nodes = append(s.Nodes, of("x"))
	case 6:
		if len(s.Bytes) > 0 {
			s.Bytes[i]++
		} else {
			s.Has = !s.Has
		}
	case 7:
		if len(s.Nodes) > 0 {
			s.Nodes[i][r.IntN(32)]++
		} else {
			s.Bytes = []byte("a")
		}
	case 8:
		if len(s.Bytes) > 0 {
			s.Bytes, s.Nodes = slices.Delete(s.Bytes, i, i+1), slices.Delete(s.Nodes, i, i+1)
		} else {
			s.Sum[0]++
		}
	}
	return l
}

// P3.4, P3.6: a way that is changed at any place is refused.
func TestVerifySpoiled(t *testing.T) {
	r := seeded(9)
	for range 60 {
		p := some(r, 12)
		p[name(r)] = digest(r)
		m := from(t, p)
		for _, name := range asked(p) {
			w := way(t, m, name)
			for range 12 {
				refused(t, fmt.Sprintf("%q in %q", name, p.names()), trie.Root(m), name, spoiled(r, w))
			}
		}
	}
}
