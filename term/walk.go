package term

import (
	"iter"
	"slices"

	"hoarstone/api"
)

// place is a term at work: its number among the parts of the one around it, and how many variables are bound around it.
type place struct {
	*api.Term
	number, bound int
}

// meter counts nodes.
type meter struct{ nodes int }

// parts yields the parts of a term at work.
func (p place) parts() iter.Seq[place] {
	return func(yield func(place) bool) {
		for i := range len(p.Kids) {
			if !yield(place{&p.Kids[i], i, p.bound + binds(p.Kind, i)}) {
				return
			}
		}
		if p.Kind != api.Match {
			return
		}
		for i := range len(p.Cases) {
			if !yield(place{&p.Cases[i].Body, len(p.Kids) + i, p.bound + many(p.Cases[i].Pat)}) {
				return
			}
		}
	}
}

// within yields a term and all that are in it, each one before its parts.
func within(t api.Term) iter.Seq[place] {
	return func(yield func(place) bool) {
		var walk func(p place) bool
		walk = func(p place) bool {
			if !yield(p) {
				return false
			}
			for inner := range p.parts() {
				if !walk(inner) {
					return false
				}
			}
			return true
		}
		walk(place{Term: &t})
	}
}

// patterns yields a pattern and all that are in it, each one before its Kids.
func patterns(p api.Pattern) iter.Seq[api.Pattern] {
	return func(yield func(api.Pattern) bool) {
		var walk func(p api.Pattern) bool
		walk = func(p api.Pattern) bool { return yield(p) && all(p.Kids, walk) }
		walk(p)
	}
}

// many returns how many variables a pattern binds.
func many(p api.Pattern) int {
	n := 0
	for q := range patterns(p) {
		if q.Kind == api.PAny {
			n++
		}
	}
	return n
}

// free returns the number of a free variable, and whether the term at work is one.
func (p place) free() (int, bool) {
	if p.Kind != api.Var || p.Num < p.bound {
		return 0, false
	}
	return p.Num - p.bound, true
}

// part returns the part of a term with a number; nil if there is none.
func part(t *api.Term, i int) *api.Term {
	switch {
	case i < 0:
		return nil
	case i < len(t.Kids):
		return &t.Kids[i]
	case i-len(t.Kids) < len(t.Cases):
		return &t.Cases[i-len(t.Kids)].Body
	}
	return nil
}

// long reports whether a term has too many nodes, or is nested too deep. It ends even if a term is in itself.
func long(t api.Term) bool {
	var m meter
	return !m.term(t, 1)
}

// node counts a node, and reports whether there may be so many, so deep.
func (m *meter) node(level int) bool {
	m.nodes++
	return m.nodes <= api.MaxNodes && level <= api.MaxDeep
}

// pattern counts the nodes of a pattern, and reports likewise.
func (m *meter) pattern(p api.Pattern, level int) bool {
	return m.node(level) && all(p.Kids, func(kid api.Pattern) bool { return m.pattern(kid, level+1) })
}

// term counts the nodes of a term, and reports likewise.
func (m *meter) term(t api.Term, level int) bool {
	fits := m.node(level) &&
		all(t.Cases, func(c api.Case) bool { return m.pattern(c.Pat, level+1) }) &&
		all(t.Kids, func(kid api.Term) bool { return m.term(kid, level+1) })
	if t.Kind != api.Match {
		return fits
	}
	return fits && all(t.Cases, func(c api.Case) bool { return m.term(c.Body, level+1) })
}

// named counts the nodes of a term with names, and reports likewise.
func (m *meter) named(n Named, level int) bool {
	fits := m.node(level) &&
		all(n.Cases, func(c NamedCase) bool { return m.pattern(c.Pat, level+1) }) &&
		all(n.Kids, func(kid Named) bool { return m.named(kid, level+1) })
	if n.Kind != api.Match {
		return fits
	}
	return fits && all(n.Cases, func(c NamedCase) bool { return m.named(c.Body, level+1) })
}

// all reports whether a list has no element that is not so.
func all[T any](l []T, so func(x T) bool) bool {
	for _, x := range l {
		if !so(x) {
			return false
		}
	}
	return true
}

// joined returns lists, one behind the other, in new memory.
func joined[T any](lists ...[]T) []T { return slices.Concat(lists...) }
