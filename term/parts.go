package term

import (
	"bytes"
	"maps"
	"slices"

	"hoarstone/api"
)

// digests is the digests that were met.
type digests map[api.Sum]bool

// Refs returns the definitions, the data types and the abilities of a term.
func Refs(t api.Term) (defs, datas, abilities []api.Sum, e api.Errno) {
	if e := check(t); e != api.OK {
		return nil, nil, nil, e
	}
	called, made, asked := digests{}, digests{}, digests{}
	for p := range within(t) {
		switch p.Kind {
		case api.Def:
			called[p.Ref] = true
		case api.Con:
			made[p.Ref] = true
		case api.Do, api.Handle:
			asked[p.Ref] = true
		}
		for _, c := range p.Cases {
			for q := range patterns(c.Pat) {
				if q.Kind == api.PCon {
					made[q.Ref] = true
				}
			}
		}
	}
	return called.rising(), made.rising(), asked.rising(), api.OK
}

// Replace returns a term with one digest in the place of another one.
func Replace(t api.Term, from, to api.Sum) (api.Term, api.Errno) {
	if e := check(t); e != api.OK {
		return api.Term{}, e
	}
	c := change{ref: func(x api.Sum) api.Sum {
		if x == from {
			return to
		}
		return x
	}}
	return c.of(place{Term: &t}), api.OK
}

// At returns the part to which a path leads.
func At(t api.Term, path []int) (api.Term, api.Errno) {
	if e := check(t); e != api.OK {
		return api.Term{}, e
	}
	there := follow(&t, path)
	if there == nil {
		return api.Term{}, api.ErrNot
	}
	return copied(*there), api.OK
}

// Put returns a term with another one in the place of the part to which a path leads.
func Put(t api.Term, path []int, u api.Term) (api.Term, api.Errno) {
	if e := check(t, u); e != api.OK {
		return api.Term{}, e
	}
	made := copied(t)
	there := follow(&made, path)
	if there == nil {
		return api.Term{}, api.ErrNot
	}
	*there = copied(u)
	return short(made)
}

// follow returns the part to which a path leads; nil if there is none.
func follow(t *api.Term, path []int) *api.Term {
	for _, i := range path {
		if t = part(t, i); t == nil {
			return nil
		}
	}
	return t
}

// rising returns the digests, rising.
func (d digests) rising() []api.Sum {
	return slices.SortedFunc(maps.Keys(d), func(x, y api.Sum) int { return bytes.Compare(x[:], y[:]) })
}
