package sum

import (
	"math/bits"
	"slices"

	"hoarstone/api"
)

// The first byte of what a digest of a list is made of says how many digests the list has: none, one, or more.
const (
	byteNone = 0
	byteLeaf = 1
	bytePair = 2
)

// span is the places of a list from one on, up to, and without, another one.
type span struct{ from, to int }

// List returns the digest of a list.
func List(l []api.Sum) api.Sum {
	switch len(l) {
	case 0:
		return Of([]byte{byteNone})
	case 1:
		return leaf(l[0])
	}
	first, others := cut(l)
	return pair(List(first), List(others))
}

// Grow returns the tree with one digest more.
func Grow(t Tree, x api.Sum) (Tree, api.Errno) {
	switch {
	case !t.sound():
		return Tree{}, api.ErrWrong
	case t.Many == MaxMany:
		return Tree{}, api.ErrFull
	}
	peaks := slices.Clone(t.Peaks)
	peak := leaf(x)
	// As in a sum with 1, each power of 2 that is there already is taken up into the next one.
	for many := t.Many; many%2 == 1; many /= 2 {
		last := len(peaks) - 1
		peak = pair(peaks[last], peak)
		peaks = peaks[:last]
	}
	return Tree{Many: t.Many + 1, Peaks: append(peaks, peak)}, api.OK
}

// Root returns the digest of the list of a tree.
func Root(t Tree) (api.Sum, api.Errno) {
	if !t.sound() {
		return api.Sum{}, api.ErrWrong
	}
	last := len(t.Peaks) - 1
	if last < 0 {
		return List(nil), api.OK
	}
	root := t.Peaks[last]
	for _, peak := range slices.Backward(t.Peaks[:last]) {
		root = pair(peak, root)
	}
	return root, api.OK
}

// Proof returns the way of a place.
func Proof(l []api.Sum, i int) ([]api.Sum, api.Errno) {
	if i < 0 || i >= len(l) {
		return nil, api.ErrNot
	}
	var way []api.Sum
	for _, s := range beside(len(l), i) {
		way = append(way, List(l[s.from:s.to]))
	}
	return way, api.OK
}

// Verify reports whether a digest stands at a place of a list.
func Verify(root api.Sum, many, i int, x api.Sum, way []api.Sum) (bool, api.Errno) {
	switch {
	case many < 1 || many > MaxMany:
		return false, api.ErrRange
	case i < 0 || i >= many:
		return false, api.ErrNot
	}
	spans := beside(many, i)
	if len(way) != len(spans) {
		return false, api.ErrMany
	}
	up := leaf(x)
	for k, s := range spans {
		if s.from > i {
			up = pair(up, way[k])
		} else {
			up = pair(way[k], up)
		}
	}
	return up == root, api.OK
}

// sound reports whether a tree can be that of a list, as far as its numbers tell.
func (t Tree) sound() bool {
	return t.Many >= 0 && t.Many <= MaxMany && len(t.Peaks) == bits.OnesCount(uint(t.Many))
}

// leaf returns the digest of the list of one digest.
func leaf(x api.Sum) api.Sum { return Of(append([]byte{byteLeaf}, x[:]...)) }

// pair returns the digest of a list that was cut in two, of the digests of both lists.
func pair(first, others api.Sum) api.Sum {
	return Of(slices.Concat([]byte{bytePair}, first[:], others[:]))
}

// half returns the greatest power of 2 below n, which is above 1.
func half(n int) int { return 1 << (bits.Len(uint(n-1)) - 1) }

// cut returns the two lists into which a list of more than one is cut.
func cut[T any](l []T) (first, others []T) {
	m := half(len(l))
	return l[:m], l[m:]
}

// cut returns the two spans into which a span of more than one place is cut.
func (s span) cut() (first, others span) {
	middle := s.from + half(s.to-s.from)
	return span{s.from, middle}, span{middle, s.to}
}

// beside returns the spans of a list of n whose digests are the way of the place i.
func beside(n, i int) []span {
	var l []span
	at, place := span{0, n}, span{i, i + 1}
	for at != place {
		first, others := at.cut()
		if i < first.to {
			l = append(l, others)
			at = first
		} else {
			l = append(l, first)
			at = others
		}
	}
	// They were met from the root on; a way begins beside its leaf.
	slices.Reverse(l)
	return l
}
