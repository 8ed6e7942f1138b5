package trie

import (
	"iter"
	"slices"
	"strings"

	"hoarstone/api"
	"hoarstone/sum"
)

// Way returns the nodes on the way of a name.
func Way(m Map, name string) ([]Step, api.Errno) {
	if len(name) > MaxKey {
		return nil, api.ErrLong
	}
	var l []Step
	for _, n := range m.way(name) {
		s := n.Step
		s.Bytes, s.Nodes = slices.Clone(s.Bytes), slices.Clone(s.Nodes)
		l = append(l, s)
	}
	return l, api.OK
}

// Verify returns what a way says of a name.
func Verify(root api.Sum, name string, way []Step) (x api.Sum, is bool, e api.Errno) {
	if len(name) > MaxKey {
		return api.Sum{}, false, api.ErrLong
	}
	if len(way) == 0 && root != sum.Of(nil) {
		return api.Sum{}, false, api.ErrWrong
	}
	want, left, goes := root, name, len(way) > 0
	for _, s := range way {
		if !goes || !s.sound() || s.hash() != want {
			return api.Sum{}, false, api.ErrWrong
		}
		if s.ends(left) {
			x, is = s.Sum, true
		}
		i, rest, on := s.onward(left)
		if on {
			want = s.Nodes[i]
		}
		left, goes = rest, on
	}
	if goes {
		return api.Sum{}, false, api.ErrWrong
	}
	return x, is, api.OK
}

// way yields the nodes on the way of a name, with what is left of the name at each of them.
func (m Map) way(name string) iter.Seq2[string, *node] {
	return func(yield func(string, *node) bool) {
		n, left, goes := m.root, name, m.root != nil
		for goes && yield(left, n) {
			i, rest, on := n.onward(left)
			if on {
				n = n.kids[i]
			}
			left, goes = rest, on
		}
	}
}

// onward returns the branch by which the way of a name goes on from a node, what is left of the name behind it, and whether it goes on.
func (s Step) onward(left string) (i int, rest string, goes bool) {
	if len(left) <= len(s.Stem) || !strings.HasPrefix(left, s.Stem) {
		return 0, "", false
	}
	b, rest := behindStem(left, s.Stem)
	i, is := s.find(b)
	if !is {
		return 0, "", false
	}
	return i, rest, true
}

// sound reports whether a step can be the node of names, whatever its digests are.
func (s Step) sound() bool {
	for i := range len(s.Bytes) {
		if i > 0 && s.Bytes[i-1] >= s.Bytes[i] {
			return false
		}
	}
	return len(s.Stem) <= MaxKey && len(s.Nodes) == len(s.Bytes) &&
		(s.Has || s.Sum == api.Sum{} && len(s.Nodes) >= 2)
}
