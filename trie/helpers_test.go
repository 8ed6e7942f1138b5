package trie_test

import (
	"bytes"
	"crypto/sha256"
	"encoding/binary"
	"maps"
	"math/rand/v2"
	"slices"
	"strconv"
	"strings"
	"testing"

	"hoarstone/api"
	"hoarstone/trie"
)

// plain is a map, kept and worked on in the plainest way that the chapter's words allow.
type plain map[string]api.Sum

// of returns the digest of a text.
func of(s string) api.Sum { return sha256.Sum256([]byte(s)) }

// words returns the map of names, each of which has the digest of its own bytes.
func words(names ...string) plain {
	p := plain{}
	for _, name := range names {
		p[name] = of(name)
	}
	return p
}

// names returns the names, rising.
func (p plain) names() []string { return slices.Sorted(maps.Keys(p)) }

// stem returns the longest text with which all names begin.
func (p plain) stem() string {
	names := p.names()
	stem := names[0]
	for !all(names, func(name string) bool { return strings.HasPrefix(name, stem) }) {
		stem = stem[:len(stem)-1]
	}
	return stem
}

// all reports whether all elements of a list are so.
func all[T any](l []T, so func(T) bool) bool {
	return !slices.ContainsFunc(l, func(x T) bool { return !so(x) })
}

// below returns the names that begin with a text, without it.
func (p plain) below(begin string) plain {
	q := plain{}
	for name, x := range p {
		if rest, is := strings.CutPrefix(name, begin); is {
			q[rest] = x
		}
	}
	return q
}

// step returns the node of the names.
func (p plain) step() trie.Step {
	s := trie.Step{Stem: p.stem()}
	s.Sum, s.Has = p[s.Stem]
	for _, name := range p.names() {
		// Rising names have rising bytes behind the stem.
		behind := name[len(s.Stem):]
		if behind == "" || len(s.Bytes) > 0 && s.Bytes[len(s.Bytes)-1] == behind[0] {
			continue
		}
		s.Bytes = append(s.Bytes, behind[0])
		s.Nodes = append(s.Nodes, hash(p.below(s.Stem+behind[:1]).step()))
	}
	return s
}

// hash returns the digest of the bytes of a step, whatever is wrong in it. A branch without a node has the zero digest.
func hash(s trie.Step) api.Sum {
	b := append([]byte{byte(len(s.Stem))}, s.Stem...)
	if s.Has {
		b = append(append(b, 1), s.Sum[:]...)
	} else {
		b = append(b, 0)
	}
	b = binary.BigEndian.AppendUint16(b, uint16(len(s.Bytes)))
	for i, branch := range s.Bytes {
		var node api.Sum
		if i < len(s.Nodes) {
			node = s.Nodes[i]
		}
		b = append(append(b, branch), node[:]...)
	}
	return sha256.Sum256(b)
}

// root returns the root.
func (p plain) root() api.Sum {
	if len(p) == 0 {
		return of("")
	}
	return hash(p.step())
}

// way returns the way of a name.
func (p plain) way(name string) []trie.Step {
	if len(p) == 0 {
		return nil
	}
	s := p.step()
	way := []trie.Step{s}
	if rest, is := strings.CutPrefix(name, s.Stem); is && rest != "" {
		if q := p.below(s.Stem + rest[:1]); len(q) > 0 {
			way = append(way, q.way(rest[1:])...)
		}
	}
	return way
}

// bytes returns the bytes of a map.
func (p plain) bytes() []byte {
	b := binary.BigEndian.AppendUint16(nil, uint16(len(p)))
	for _, name := range p.names() {
		b = append(append(b, byte(len(name))), name...)
		x := p[name]
		b = append(b, x[:]...)
	}
	return b
}

// diff returns what differs.
func (p plain) diff(q plain) []trie.Change {
	both := maps.Clone(p)
	maps.Copy(both, q)
	var l []trie.Change
	for _, name := range both.names() {
		c := trie.Change{Name: name}
		c.Old, c.Had = p[name]
		c.New, c.Has = q[name]
		if !c.Had || !c.Has || c.Old != c.New {
			l = append(l, c)
		}
	}
	return l
}

// seeded returns random numbers, other ones for another seed.
func seeded(seed uint64) *rand.Rand { return rand.New(rand.NewPCG(seed, 3)) }

// parts are what random names are made of: single bytes, none of a character, first bytes that characters share, and long texts.
var parts = []string{"a", "a", "b", "b", "c", "\x00", "\xff", "\x80", "\xc3", "é", "è", "€", "₭", "aaaaaaaa", "ab", ""}

// name returns a random name.
func name(r *rand.Rand) string {
	var b strings.Builder
	for range r.IntN(5) {
		b.WriteString(parts[r.IntN(len(parts))])
	}
	return b.String()
}

// digest returns one of few digests, of which one is zero.
func digest(r *rand.Rand) api.Sum {
	if n := r.IntN(4); n > 0 {
		return of(strconv.Itoa(n))
	}
	return api.Sum{}
}

// some returns a random map of at most so many names.
func some(r *rand.Rand, most int) plain {
	p := plain{}
	for range r.IntN(most + 1) {
		p[name(r)] = digest(r)
	}
	return p
}

// near returns a map that differs from another one in few names, or in none.
func near(r *rand.Rand, p plain) plain {
	q := maps.Clone(p)
	for range r.IntN(4) {
		switch names := q.names(); {
		case len(names) > 0 && r.IntN(2) == 0:
			delete(q, names[r.IntN(len(names))])
		case len(names) > 0 && r.IntN(2) == 0:
			q[names[r.IntN(len(names))]] = digest(r)
		default:
			q[name(r)] = digest(r)
		}
	}
	return q
}

// asked are names to ask a map for: its own, what is near them, and others.
func asked(p plain) []string {
	l := []string{"", "a", "b", "zzz", "\xc3", "\xff\xff", strings.Repeat("a", trie.MaxKey)}
	for _, name := range p.names() {
		l = append(l, name, name+"a", name+"\x00")
		if name != "" {
			l = append(l, name[:len(name)-1], name[1:], name[:len(name)-1]+"~")
		}
	}
	return slices.DeleteFunc(l, func(name string) bool { return len(name) > trie.MaxKey })
}

// many returns n names of three letters, none of them again for another place to begin at.
func many(from, n int) []string {
	var l []string
	for i := range n {
		i += from
		l = append(l, string([]byte{'a' + byte(i/100), 'a' + byte(i/10%10), 'a' + byte(i%10)}))
	}
	return l
}

// tower returns the names that are made of one letter, as long as names may be.
func tower() []string {
	var l []string
	for n := range trie.MaxKey + 1 {
		l = append(l, strings.Repeat("a", n))
	}
	return l
}

// fan returns the names of one byte.
func fan() []string {
	var l []string
	for b := range 256 {
		l = append(l, string([]byte{byte(b)}))
	}
	return l
}

// shapes are maps of ordinary and of extreme shapes.
func shapes() map[string]plain {
	zero := words("a", "ab", "b")
	zero["ab"], zero["b"] = api.Sum{}, api.Sum{}
	return map[string]plain{
		"none": words(), "empty name": words(""), "one": words("cat"), "longest": words(strings.Repeat("x", trie.MaxKey)),
		"two": words("ab", "ac"), "beginning": words("a", "ab"), "empty and more": words("", "a", "b"), "chain": words("a", "ab", "abc", "abcd"),
		"characters": words("é", "è", "\xc3", "€", "₭", "éa", "éb"), "no characters": words("\xff", "\xfe", "\xff\xff", "\x80\x80", "\x00"),
		"tower": words(tower()...), "fan": words(fan()...), "full": words(many(0, trie.MaxNames)...), "zero digests": zero,
	}
}

// from returns the map of names and digests that a plain map has, given in whatever order a Go map has.
func from(t *testing.T, p plain) trie.Map {
	t.Helper()
	var names []string
	var sums []api.Sum
	for name, x := range p {
		names, sums = append(names, name), append(sums, x)
	}
	m, e := trie.From(names, sums)
	if e != api.OK {
		t.Fatal("From", len(p), e)
	}
	return m
}

// put is Put where no error is expected.
func put(t *testing.T, m trie.Map, name string, x api.Sum) trie.Map {
	t.Helper()
	next, e := trie.Put(m, name, x)
	if e != api.OK {
		t.Fatalf("Put %q: %d", name, e)
	}
	return next
}

// drop is Drop where no error is expected.
func drop(t *testing.T, m trie.Map, name string) trie.Map {
	t.Helper()
	next, e := trie.Drop(m, name)
	if e != api.OK {
		t.Fatalf("Drop %q: %d", name, e)
	}
	return next
}

// way is Way where no error is expected.
func way(t *testing.T, m trie.Map, name string) []trie.Step {
	t.Helper()
	l, e := trie.Way(m, name)
	if e != api.OK {
		t.Fatalf("Way %q: %d", name, e)
	}
	return l
}

// isEmpty reports whether a map is as the zero Map is.
func isEmpty(m trie.Map) bool {
	return trie.Many(m) == 0 && len(trie.Names(m)) == 0 && trie.Root(m) == of("") && trie.Same(m, trie.Map{})
}

// holds tells where a map is not what a plain map is.
func holds(t *testing.T, m trie.Map, p plain) {
	t.Helper()
	if trie.Many(m) != len(p) || !slices.Equal(trie.Names(m), p.names()) || trie.Root(m) != p.root() || !bytes.Equal(trie.Encode(m), p.bytes()) {
		t.Errorf("%q are not those of %q", trie.Names(m), p.names())
	}
	for _, name := range asked(p) {
		want, is := p[name]
		x, e := trie.Get(m, name)
		if x != want || is && e != api.OK || !is && e != api.ErrNone {
			t.Errorf("Get %q of %q: %x, %d", name, p.names(), x, e)
		}
	}
}

// sameStep reports whether two steps are the same.
func sameStep(a, b trie.Step) bool {
	return a.Stem == b.Stem && a.Has == b.Has && a.Sum == b.Sum && bytes.Equal(a.Bytes, b.Bytes) && slices.Equal(a.Nodes, b.Nodes)
}

// sameWay reports whether two ways are the same.
func sameWay(a, b []trie.Step) bool { return slices.EqualFunc(a, b, sameStep) }

// cloned returns a copy of a way.
func cloned(way []trie.Step) []trie.Step {
	l := slices.Clone(way)
	for i := range l {
		l[i].Bytes, l[i].Nodes = slices.Clone(l[i].Bytes), slices.Clone(l[i].Nodes)
	}
	return l
}
