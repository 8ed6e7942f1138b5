package knot

import (
	"slices"

	"hoarstone/api"
	"hoarstone/sum"
	"hoarstone/term"
)

// known is terms that call one another by digests, with the numbers of the digests.
type known struct {
	bonds
	terms   []api.Term
	numbers map[api.Sum]int
}

// Close returns the group of a digest.
func Close(l []api.KnownTerm, root api.Sum) ([]api.Term, api.Errno) {
	k, e := opened(l)
	if e != api.OK {
		return nil, e
	}
	if _, is := k.numbers[root]; !is {
		return nil, api.ErrNone
	}
	return k.closed(root)
}

// Verify returns whether known terms have the digests that they are said to have.
func Verify(l []api.KnownTerm) api.Errno {
	k, e := opened(l)
	if e != api.OK {
		return e
	}
	return firstError(l, func(t api.KnownTerm) api.Errno { return k.verify(t.Sum) })
}

// opened returns what is known, or its error.
func opened(l []api.KnownTerm) (known, api.Errno) {
	if len(l) > MaxKnown {
		return known{}, api.ErrMany
	}
	k := known{numbers: map[api.Sum]int{}}
	for i, t := range l {
		k.terms = append(k.terms, t.Body)
		k.numbers[t.Sum] = i
	}
	if e := firstError(k.terms, func(t api.Term) api.Errno { return term.Check(t, 0, 0) }); e != api.OK {
		return known{}, e
	}
	if len(k.numbers) < len(l) {
		return known{}, api.ErrTwice
	}
	k.bonds = bondsOf(k.terms, k.number)
	return k, api.OK
}

// number returns which known term a term stands for, if it is the Def of one.
func (k known) number(t api.Term) (int, bool) {
	i, is := k.numbers[t.Ref]
	return i, is && t.Kind == api.Def
}

// closed returns the group of a digest that is known.
func (k known) closed(root api.Sum) ([]api.Term, api.Errno) {
	own := k.numbered(k.numbers[root])
	if len(own) > api.MaxGroup {
		return nil, api.ErrMany
	}
	called := change{api.Def, func(t api.Term) api.Term {
		if i, is := k.number(t); is && slices.Contains(own, i) {
			return api.Term{Kind: api.Self, Num: slices.Index(own, i)}
		}
		return t
	}}
	return each(own, func(i int) api.Term { return called.of(k.terms[i]) }), api.OK
}

// verify returns the error of a digest that is known.
func (k known) verify(root api.Sum) api.Errno {
	l, e := k.closed(root)
	if e != api.OK {
		return e
	}
	b, e := Code(l, 0)
	if e != api.OK {
		return e
	}
	if sum.Of(b) != root {
		return api.ErrWrong
	}
	return api.OK
}
