package knot

import (
	"bytes"
	"slices"

	"hoarstone/api"
	"hoarstone/sum"
	"hoarstone/term"
	"hoarstone/wire"
)

// partKind is the Kind of the item of a part.
const partKind = 40

// writer writes the codes of a group, with the digests of the members that have one so far.
type writer struct {
	group
	sums []api.Sum
}

// Code returns the code of a member.
func Code(l []api.Term, i int) ([]byte, api.Errno) {
	if e := Check(l); e != api.OK {
		return nil, e
	}
	if lacks(l, i) {
		return nil, api.ErrNot
	}
	w := writerOf(l)
	first, all := w.firsts[i], w.parts()
	own := slices.IndexFunc(all, func(part []int) bool { return slices.Contains(part, first) })
	if e := w.write(all[:own]...); e != api.OK {
		return nil, e
	}
	return w.code(first)
}

// Sums returns the digests of all members.
func Sums(l []api.Term) ([]api.Sum, api.Errno) {
	w, e := written(l)
	if e != api.OK {
		return nil, e
	}
	return each(w.firsts, func(i int) api.Sum { return w.sums[i] }), api.OK
}

// Open returns the members with digests in the place of the members that they call.
func Open(l []api.Term) ([]api.Term, api.Errno) {
	w, e := written(l)
	if e != api.OK {
		return nil, e
	}
	return each(l, change{api.Self, w.defined}.of), api.OK
}

// Same reports whether two members have the same code.
func Same(a []api.Term, i int, b []api.Term, j int) (bool, api.Errno) {
	if e := firstError([][]api.Term{a, b}, Check); e != api.OK {
		return false, e
	}
	if lacks(a, i) || lacks(b, j) {
		return false, api.ErrNot
	}
	x, e := Code(a, i)
	if e != api.OK {
		return false, e
	}
	y, e := Code(b, j)
	return e == api.OK && bytes.Equal(x, y), e
}

// writerOf returns what writes the codes of a right group.
func writerOf(l []api.Term) writer { return writer{groupOf(l), make([]api.Sum, len(l))} }

// written returns a group all of whose first members have digests.
func written(l []api.Term) (writer, api.Errno) {
	if e := Check(l); e != api.OK {
		return writer{}, e
	}
	w := writerOf(l)
	return w, w.write(w.parts()...)
}

// write gives the members of parts their digests, if those of the parts before have some.
func (w writer) write(l ...[]int) api.Errno {
	return firstError(slices.Concat(l...), func(i int) api.Errno {
		b, e := w.code(i)
		if e == api.OK {
			w.sums[i] = sum.Of(b)
		}
		return e
	})
}

// code returns the code of a first member, if those of the parts before have digests.
func (w writer) code(first int) ([]byte, api.Errno) {
	own := w.numbered(first)
	settled := change{api.Self, func(t api.Term) api.Term {
		if i := slices.Index(own, t.Num); i >= 0 {
			return api.Term{Kind: api.Self, Num: i}
		}
		return w.defined(t)
	}}
	kids := each(own, func(i int) api.Item {
		// What is settled is right, as the member is of which it is made.
		x, _ := term.Item(settled.of(w.made[i]))
		return x
	})
	return wire.Encode(api.Item{Kind: partKind, Num: len(own), Kids: kids})
}

// defined returns what calls a member by its digest instead of its number.
func (w writer) defined(t api.Term) api.Term {
	return api.Term{Kind: api.Def, Ref: w.sums[w.firsts[t.Num]]}
}
