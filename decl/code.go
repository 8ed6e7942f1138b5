package decl

import (
	"bytes"
	"slices"

	"hoarstone/api"
	"hoarstone/sum"
	"hoarstone/wire"
)

// writer writes the codes of a group, with the digests of the members that have one so far.
type writer struct {
	ties
	sums []api.Sum
}

// Code returns the code of a member of a group.
func Code(group []api.Data, i int) ([]byte, api.Errno) {
	if e := ShapeDatas(group); e != api.OK {
		return nil, e
	}
	if i < 0 || i >= len(group) {
		return nil, api.ErrNot
	}
	w := writerOf(group)
	first, parts := w.firsts[i], w.parts()
	own := slices.IndexFunc(parts, func(part []int) bool { return slices.Contains(part, first) })
	if e := w.write(parts[:own]...); e != api.OK {
		return nil, e
	}
	return w.code(first)
}

// FromCode returns the group of a code.
func FromCode(b []byte) ([]api.Data, api.Errno) {
	x, _, e := wire.Decode(b)
	if e != api.OK {
		return nil, e
	}
	group := each(x.Kids, readData)
	// Whatever else is wrong in bytes is not there any more when the code is written.
	if written, e := Code(group, 0); e != api.OK || !bytes.Equal(b, written) {
		return nil, api.ErrForm
	}
	return group, api.OK
}

// Sums returns the digests of the members of a group.
func Sums(group []api.Data) ([]api.Sum, api.Errno) {
	w, e := written(group)
	if e != api.OK {
		return nil, e
	}
	return each(w.firsts, func(i int) api.Sum { return w.sums[i] }), api.OK
}

// Open returns the members of a group with their digests.
func Open(group []api.Data) ([]api.KnownData, api.Errno) {
	w, e := written(group)
	if e != api.OK {
		return nil, e
	}
	var l []api.KnownData
	for i, first := range w.firsts {
		if i == first {
			l = append(l, api.KnownData{Sum: w.sums[i], Data: changedData(w.made[i], w.settle(nil))})
		}
	}
	return l, api.OK
}

// AbilityCode returns the code of an ability.
func AbilityCode(a api.Ability) ([]byte, api.Errno) {
	if e := ShapeAbility(a); e != api.OK {
		return nil, e
	}
	return wire.Encode(abilityItem(a))
}

// FromAbilityCode returns the ability of a code.
func FromAbilityCode(b []byte) (api.Ability, api.Errno) {
	x, _, e := wire.Decode(b)
	if e != api.OK {
		return api.Ability{}, e
	}
	a := api.Ability{Unique: x.Text, Ops: each(x.Kids, readOp)}
	if written, e := AbilityCode(a); e != api.OK || !bytes.Equal(b, written) {
		return api.Ability{}, api.ErrForm
	}
	return a, api.OK
}

// AbilitySum returns the digest of an ability.
func AbilitySum(a api.Ability) (api.Sum, api.Errno) {
	b, e := AbilityCode(a)
	if e != api.OK {
		return api.Sum{}, e
	}
	return sum.Of(b), api.OK
}

// writerOf returns what writes the codes of a group of the right shape.
func writerOf(group []api.Data) writer {
	return writer{tiesOf(group), make([]api.Sum, len(group))}
}

// written returns a group all of whose first members have digests.
func written(group []api.Data) (writer, api.Errno) {
	if e := ShapeDatas(group); e != api.OK {
		return writer{}, e
	}
	w := writerOf(group)
	return w, w.write(w.parts()...)
}

// write gives the members of parts their digests, if those of the parts before have some.
func (w writer) write(parts ...[]int) api.Errno {
	for _, part := range parts {
		for _, i := range part {
			b, e := w.code(i)
			if e != api.OK {
				return e
			}
			w.sums[i] = sum.Of(b)
		}
	}
	return api.OK
}

// code returns the code of a first member, if those of the parts before have digests.
func (w writer) code(first int) ([]byte, api.Errno) {
	own := w.numbered(first)
	settled := each(own, func(i int) api.Item { return dataItem(changedData(w.made[i], w.settle(own))) })
	return wire.Encode(api.Item{Kind: partKind, Num: len(own), Kids: settled})
}

// settle returns what becomes of types: members among some get the numbers that they have there, other ones are named by their digests.
func (w writer) settle(own []int) func(t api.Type) api.Type {
	return func(t api.Type) api.Type {
		if !isSelf(t) {
			return t
		}
		if i := slices.Index(own, t.Num); i >= 0 {
			t.Num = i
			return t
		}
		return api.Type{Kind: api.TData, Ref: w.sums[t.Num], Kids: t.Kids}
	}
}
