package term

import (
	"slices"

	"hoarstone/api"
)

// change says what is done with the variables of a copy, and what becomes of digests; nil leaves them as they are.
type change struct {
	variable func(v place)
	ref      func(x api.Sum) api.Sum
}

// copied returns a copy of a term that shares no memory with it.
func copied(t api.Term) api.Term { return change{}.of(place{Term: &t}) }

// copiedPattern returns a copy of a pattern that shares no memory with it.
func copiedPattern(p api.Pattern) api.Pattern { return change{}.pattern(p) }

// of returns what becomes of a term at work, in new memory.
func (c change) of(p place) api.Term {
	t := *p.Term
	t.Kids, t.Cases = slices.Clone(t.Kids), slices.Clone(t.Cases)
	if refers(termShape(t.Kind)) {
		t.Ref = c.digest(t.Ref)
	}
	for i := range len(t.Cases) {
		t.Cases[i].Pat = c.pattern(t.Cases[i].Pat)
	}
	for inner := range p.parts() {
		*part(&t, inner.number) = c.of(inner)
	}
	if t.Kind == api.Var && c.variable != nil {
		c.variable(place{&t, p.number, p.bound})
	}
	return t
}

// pattern returns what becomes of a pattern, in new memory.
func (c change) pattern(p api.Pattern) api.Pattern {
	p.Kids = slices.Clone(p.Kids)
	if refers(patternShape(p.Kind)) {
		p.Ref = c.digest(p.Ref)
	}
	for i := range len(p.Kids) {
		p.Kids[i] = c.pattern(p.Kids[i])
	}
	return p
}

// digest returns what becomes of a digest.
func (c change) digest(x api.Sum) api.Sum {
	if c.ref == nil {
		return x
	}
	return c.ref(x)
}
