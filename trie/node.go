package trie

import (
	"maps"
	"slices"

	"hoarstone/api"
	"hoarstone/sum"
)

// node is a node with the nodes of its branches, how many names it has, and its digest. Maps share nodes: none is changed once it is whole, nor any list in it.
type node struct {
	Step
	kids   []*node
	many   int
	digest api.Sum
}

// entry is a name with its digest.
type entry struct {
	name string
	sum  api.Sum
}

// edit says what becomes of the node at which a name ends.
type edit struct{ become func(n *node) }

// given is the digest that a name is given.
type given api.Sum

// put gives a node the digest.
func (x given) put(n *node) { n.Has, n.Sum = true, api.Sum(x) }

// strip takes the digest of a node away.
func strip(n *node) { n.Has, n.Sum = false, api.Sum{} }

// parted returns the node of names, each of which is there once; nil is that of none.
func parted(l []entry) *node {
	if len(l) == 0 {
		return nil
	}
	stem := l[0].name
	for _, x := range l {
		stem = stem[:alike(stem, x.name)]
	}
	n := node{Step: Step{Stem: stem}}
	branches := map[byte][]entry{}
	for _, x := range l {
		if x.name == stem {
			given(x.sum).put(&n)
			continue
		}
		b, rest := behindStem(x.name, stem)
		branches[b] = append(branches[b], entry{rest, x.sum})
	}
	n.Bytes = slices.Sorted(maps.Keys(branches))
	for _, b := range n.Bytes {
		n.kids = append(n.kids, parted(branches[b]))
	}
	return n.whole()
}

// behind returns the node behind an edit of the name of which this is left; nil is the node of no names.
func (d edit) behind(n *node, left string) *node {
	draft := node{Step: Step{Stem: left}}
	if n != nil {
		draft = n.cut(alike(n.Stem, left))
	}
	if draft.Stem == left {
		d.become(&draft)
		return draft.whole()
	}
	b, rest := behindStem(left, draft.Stem)
	i, is := draft.find(b)
	if is {
		draft.kids = slices.Clone(draft.kids)
	} else {
		draft.Bytes = inserted(draft.Bytes, i, b)
		draft.kids = inserted(draft.kids, i, nil)
	}
	draft.kids[i] = d.behind(draft.kids[i], rest)
	if draft.kids[i] == nil {
		draft.Bytes = slices.Delete(slices.Clone(draft.Bytes), i, i+1)
		draft.kids = slices.Delete(draft.kids, i, i+1)
	}
	return draft.whole()
}

// cut returns a draft of the node's names with a stem of that many bytes: what is left of the node's own stem moves into a branch.
func (n *node) cut(long int) node {
	if long == len(n.Stem) {
		return *n
	}
	b, rest := behindStem(n.Stem, n.Stem[:long])
	lower := *n
	lower.Stem = rest
	return node{Step: Step{Stem: n.Stem[:long], Bytes: []byte{b}}, kids: []*node{lower.whole()}}
}

// whole returns the node of the names that a draft has; nil is that of none.
func (n node) whole() *node {
	if !n.Has && len(n.kids) == 0 {
		return nil
	}
	if !n.Has && len(n.kids) == 1 {
		// All names have the byte of the only branch: it belongs to the stem.
		stem := n.Stem + string(n.Bytes) + n.kids[0].Stem
		n = *n.kids[0]
		n.Stem = stem
	}
	n.many = 0
	if n.Has {
		n.many = 1
	}
	n.Nodes = make([]api.Sum, len(n.kids))
	for i := range len(n.kids) {
		n.many += n.kids[i].many
		n.Nodes[i] = n.kids[i].digest
	}
	n.digest = n.hash()
	return &n
}

// hash returns the digest of the bytes of a node.
func (s Step) hash() api.Sum {
	own := []byte{0}
	if s.Has {
		own = joined([]byte{1}, s.Sum[:])
	}
	many := length(len(s.Bytes))
	b := joined([]byte{byte(len(s.Stem))}, []byte(s.Stem), own, many[:])
	for i := range len(s.Bytes) {
		b = append(append(b, s.Bytes[i]), s.Nodes[i][:]...)
	}
	return sum.Of(b)
}

// find returns the index of the branch with a byte, or the one that it would have, and whether there is one.
func (s Step) find(b byte) (int, bool) {
	at := len(s.Bytes)
search:
	for i := range len(s.Bytes) {
		switch other := s.Bytes[i]; {
		case other == b:
			return i, true
		case other > b:
			at = i
			break search
		}
	}
	return at, false
}

// ends reports whether a name of which this is left ends at a node, and has its digest.
func (s Step) ends(left string) bool { return s.Has && s.Stem == left }

// behindStem returns the byte behind the stem of a name that is longer, and what stands behind this byte.
func behindStem(name, stem string) (byte, string) {
	return name[len(stem)], name[len(stem)+1:]
}

// alike returns how many bytes two names begin with that are the same.
func alike(a, b string) int {
	n := 0
	for i := range a {
		if i > len(b) || a[n:i] != b[n:i] {
			break
		}
		n = i
	}
	// The loop goes on by characters: of one that differs the first bytes may be the same.
	for n < len(a) && n < len(b) && a[n] == b[n] {
		n++
	}
	return n
}

// inserted returns a list with one element more at an index, in new memory.
func inserted[T any](l []T, i int, x T) []T {
	return slices.Concat(l[:i], []T{x}, l[i:])
}

// joined returns parts, one behind the other, in new memory.
func joined(parts ...[]byte) []byte { return slices.Concat(parts...) }

// length returns a number as two bytes, the more significant one first.
func length(n int) [2]byte { return [2]byte{byte(n >> 8), byte(n)} }
