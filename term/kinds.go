package term

import (
	"math"

	"hoarstone/api"
)

// The fields that some kinds have and others have not.
const (
	numField = iota
	refField
	casesField
	manyFields
)

// fields says of each of these fields whether it is there.
type fields [manyFields]bool

// shape is what a kind of nodes is allowed: its fields, how many Kids, and which Num.
type shape struct {
	has             fields
	fewest, most    int
	least, greatest int
}

// key is a node without what is in it, but for how much that is.
type key struct {
	kind, num   int
	ref         api.Sum
	kids, cases int
}

// Which variables and members there are is asked behind all else: any Num has the form of one.
var termShapes = [api.Handle + 1]shape{
	api.Var:    {fields{numField: true}, 0, 0, math.MinInt, math.MaxInt},
	api.Nat:    {fields{numField: true}, 0, 0, 0, api.MaxNat},
	api.Lam:    {fields{}, 1, 1, 0, 0},
	api.App:    {fields{}, 2, 2, 0, 0},
	api.Let:    {fields{}, 2, 2, 0, 0},
	api.Def:    {fields{refField: true}, 0, 0, 0, 0},
	api.Self:   {fields{numField: true}, 0, 0, math.MinInt, math.MaxInt},
	api.Con:    {fields{numField: true, refField: true}, 0, api.MaxKids, 0, api.MaxCons - 1},
	api.Match:  {fields{casesField: true}, 1, 1, 0, 0},
	api.Prim:   {fields{numField: true}, 2, 2, api.Plus, api.Less},
	api.Do:     {fields{numField: true, refField: true}, 1, 1, 0, api.MaxCons - 1},
	api.Handle: {fields{refField: true}, 2, 2 + api.MaxCons, 0, 0},
}

var patternShapes = [api.PCon + 1]shape{
	api.PAny: {fields{}, 0, 0, 0, 0},
	api.PNat: {fields{numField: true}, 0, 0, 0, api.MaxNat},
	api.PCon: {fields{numField: true, refField: true}, 0, api.MaxKids, 0, api.MaxCons - 1},
}

// termShape returns the shape of a kind of terms, and whether it is one.
func termShape(kind int) (shape, bool) {
	if kind < api.Var || kind > api.Handle {
		return shape{}, false
	}
	return termShapes[kind], true
}

// patternShape returns the shape of a kind of patterns, and whether it is one.
func patternShape(kind int) (shape, bool) {
	if kind < api.PAny || kind > api.PCon {
		return shape{}, false
	}
	return patternShapes[kind], true
}

// refers reports whether nodes of a shape have a Ref.
func refers(s shape, known bool) bool { return known && s.has[refField] }

// keyOf returns the key of a term.
func keyOf(t api.Term) key { return key{t.Kind, t.Num, t.Ref, len(t.Kids), len(t.Cases)} }

// patternKey returns the key of a pattern.
func patternKey(p api.Pattern) key { return key{p.Kind, p.Num, p.Ref, len(p.Kids), 0} }

// check returns the error of a node whose kind has a shape, if it is known.
func (k key) check(s shape, known bool) api.Errno {
	switch {
	case !known:
		return api.ErrRange
	case s.has.or(k.used()) != s.has:
		return api.ErrClash
	case k.kids < s.fewest || k.kids > s.most, k.cases > api.MaxCons:
		return api.ErrMany
	case k.num < s.least || k.num > s.greatest:
		return api.ErrRange
	}
	return api.OK
}

// used returns the fields that are not zero.
func (k key) used() fields {
	return fields{numField: k.num != 0, refField: k.ref != api.Sum{}, casesField: k.cases != 0}
}

// or returns the fields that are in one of both, at least.
func (f fields) or(g fields) fields {
	for i := range manyFields {
		f[i] = f[i] || g[i]
	}
	return f
}

// binds returns how many more variables are bound in a Kid than around a term of a kind.
func binds(kind, kid int) int {
	switch {
	case kind == api.Lam && kid == 0, kind == api.Let && kid == 1, kind == api.Handle && kid == 1:
		return 1
	case kind == api.Handle && kid > 1:
		return 2
	}
	return 0
}
