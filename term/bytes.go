package term

import (
	"hoarstone/api"
	"hoarstone/wire"
)

const (
	caseKind    = 20 // the Kind of the item of a case
	patternKind = 30 // what the Kind of the item of a pattern is more
)

// Item returns the item of a term.
func Item(t api.Term) (api.Item, api.Errno) {
	if e := check(t); e != api.OK {
		return api.Item{}, e
	}
	return item(t), api.OK
}

// FromItem returns the term of an item.
func FromItem(x api.Item) (api.Term, api.Errno) {
	// An item that is no right one may be too large to be gone through.
	if wire.Check(x) != api.OK {
		return api.Term{}, api.ErrForm
	}
	t := read(x)
	// Whatever else is wrong in an item is not there any more when the term is written.
	written, e := Item(t)
	if e != api.OK {
		return api.Term{}, api.ErrForm
	}
	if c, e := wire.Compare(x, written); c != 0 || e != api.OK {
		return api.Term{}, api.ErrForm
	}
	return t, api.OK
}

// Encode returns the bytes of a term.
func Encode(t api.Term) ([]byte, api.Errno) {
	x, e := Item(t)
	if e != api.OK {
		return nil, e
	}
	return wire.Encode(x)
}

// Decode returns the term of bytes, or where they are wrong.
func Decode(b []byte) (api.Term, int, api.Errno) {
	x, at, e := wire.Decode(b)
	if e != api.OK {
		return api.Term{}, at, e
	}
	t, e := FromItem(x)
	return t, 0, e
}

// item returns the item of a right term.
func item(t api.Term) api.Item {
	kids := each(t.Kids, item)
	cases := each(t.Cases, caseItem)
	x := api.Item{Kind: t.Kind, Num: t.Num, Kids: joined(kids, cases)}
	if refers(termShape(t.Kind)) {
		x.Text = string(t.Ref[:])
	}
	return x
}

// caseItem returns the item of a case.
func caseItem(c api.Case) api.Item {
	return api.Item{Kind: caseKind, Kids: []api.Item{patternItem(c.Pat), item(c.Body)}}
}

// patternItem returns the item of a pattern.
func patternItem(p api.Pattern) api.Item {
	x := api.Item{Kind: patternKind + p.Kind, Num: p.Num, Kids: each(p.Kids, patternItem)}
	if refers(patternShape(p.Kind)) {
		x.Text = string(p.Ref[:])
	}
	return x
}

// read returns a term that is that of an item, if the item is that of a term.
func read(x api.Item) api.Term {
	t := api.Term{Kind: x.Kind, Num: x.Num}
	copy(t.Ref[:], x.Text)
	for _, kid := range x.Kids {
		if kid.Kind == caseKind && len(kid.Kids) == 2 {
			t.Cases = append(t.Cases, api.Case{Pat: readPattern(kid.Kids[0]), Body: read(kid.Kids[1])})
		} else {
			t.Kids = append(t.Kids, read(kid))
		}
	}
	return t
}

// readPattern returns a pattern that is that of an item, if the item is that of a pattern.
func readPattern(x api.Item) api.Pattern {
	p := api.Pattern{Kind: x.Kind - patternKind, Num: x.Num, Kids: each(x.Kids, readPattern)}
	copy(p.Ref[:], x.Text)
	return p
}

// each returns what becomes of each element of a list.
func each[T, U any](l []T, become func(x T) U) []U {
	var made []U
	for _, x := range l {
		made = append(made, become(x))
	}
	return made
}
