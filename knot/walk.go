package knot

import (
	"iter"
	"slices"

	"hoarstone/api"
)

// change says what stands in a copy for each term of a kind without parts.
type change struct {
	kind   int
	become func(t api.Term) api.Term
}

// member returns which member of its group a term is, if it is a Self.
func member(t api.Term) (int, bool) { return t.Num, t.Kind == api.Self }

// calls yields the numbers of those that are called in a term, node by node, if a function tells which ones.
func calls(t api.Term, called func(t api.Term) (int, bool)) iter.Seq[int] {
	return func(yield func(int) bool) {
		var walk func(t api.Term) bool
		walk = func(t api.Term) bool {
			if i, is := called(t); is && !yield(i) {
				return false
			}
			for part := range parts(t) {
				if !walk(part) {
					return false
				}
			}
			return true
		}
		walk(t)
	}
}

// parts yields the parts of a term.
func parts(t api.Term) iter.Seq[api.Term] {
	return func(yield func(api.Term) bool) {
		for _, kid := range t.Kids {
			if !yield(kid) {
				return
			}
		}
		for _, c := range t.Cases {
			if !yield(c.Body) {
				return
			}
		}
	}
}

// of returns a term with what stands in it, in new memory.
func (c change) of(t api.Term) api.Term {
	t.Kids, t.Cases = each(t.Kids, c.of), slices.Clone(t.Cases)
	for i := range len(t.Cases) {
		t.Cases[i].Pat = copied(t.Cases[i].Pat)
		t.Cases[i].Body = c.of(t.Cases[i].Body)
	}
	if t.Kind == c.kind {
		return c.become(t)
	}
	return t
}

// copied returns a copy of a pattern in new memory.
func copied(p api.Pattern) api.Pattern {
	p.Kids = each(p.Kids, copied)
	return p
}
