package term

import (
	"slices"
	"strings"

	"hoarstone/api"
)

// mostBound is more variables than a term binds: there is a node for each one, or one for two (a body of a Handle).
const mostBound = 2 * api.MaxNodes

// Named is a term whose variables have names.
type Named struct {
	Kind, Num int
	Ref       api.Sum
	Names     []string
	Kids      []Named
	Cases     []NamedCase
}

// NamedCase is a case whose variables have names.
type NamedCase struct {
	Pat   api.Pattern
	Names []string
	Body  Named
}

// scope is the names of the variables around a term, the one that was bound last at the end.
type scope []string

// texts is the texts that were met.
type texts map[string]bool

// giver gives names, of which it has enough.
type giver struct{ names []string }

// Name returns a term with names.
func Name(t api.Term, free []string) (Named, api.Errno) {
	numbers, e := Free(t)
	taken := texts{}
	switch {
	case e != api.OK:
		return Named{}, e
	case slices.Contains(free, ""):
		return Named{}, api.ErrForm
	case !all(free, taken.first):
		return Named{}, api.ErrTwice
	case !all(numbers, func(n int) bool { return n < len(free) }):
		return Named{}, api.ErrNot
	}
	g := giver{taken.others(mostBound)}
	return g.named(t, front(free)), api.OK
}

// Nameless returns a term without names.
func Nameless(n Named, free []string) (api.Term, api.Errno) {
	var m meter
	if len(free) > MaxOpen || !m.named(n, 1) {
		return api.Term{}, api.ErrLong
	}
	t, e := n.nameless(front(free))
	if e == api.OK {
		e = check(t)
	}
	if e != api.OK {
		return api.Term{}, e
	}
	return t, api.OK
}

// front returns the scope of free names, of which the first one was bound last. Those that no variable can have are left out.
func front(free []string) scope {
	s := slices.Clone(free[:min(len(free), MaxOpen)])
	slices.Reverse(s)
	return s
}

// first reports whether a text is met for the first time, and meets it.
func (m texts) first(s string) bool {
	if m[s] {
		return false
	}
	m[s] = true
	return true
}

// others returns the first names, in their order, that were not met: at least so many.
func (m texts) others(least int) []string {
	var l []string
	name := ""
	for range least + len(m) {
		name = after(name)
		if !m[name] {
			l = append(l, name)
		}
	}
	return l
}

// after returns the name that comes behind a name; behind none it is the first one.
func after(name string) string {
	// The last letter that can rises, and each z behind it becomes an a.
	rises := -1
	for i, letter := range name {
		if letter != 'z' {
			rises = i
		}
	}
	if rises < 0 {
		return strings.Repeat("a", len(name)+1)
	}
	return name[:rises] + string(rune(name[rises]+1)) + strings.Repeat("a", len(name)-rises-1)
}

// fresh returns the first names that are not in a scope.
func (g giver) fresh(around scope, wanted int) []string {
	var own []string
search:
	for _, name := range g.names {
		switch {
		case len(own) == wanted:
			break search
		case !slices.Contains(around, name):
			own = append(own, name)
		}
	}
	return own
}

// named returns a term with names.
func (g giver) named(t api.Term, around scope) Named {
	if t.Kind == api.Var {
		return Named{Kind: api.Var, Names: []string{around.name(t.Num)}}
	}
	n := Named{Kind: t.Kind, Num: t.Num, Ref: t.Ref}
	for i, kid := range t.Kids {
		// What one Kid binds is not bound around the next one: names begin anew.
		names := g.fresh(around, binds(t.Kind, i))
		n.Names = append(n.Names, names...)
		n.Kids = append(n.Kids, g.named(kid, joined(around, names)))
	}
	for _, c := range t.Cases {
		names := g.fresh(around, many(c.Pat))
		n.Cases = append(n.Cases, NamedCase{copiedPattern(c.Pat), names, g.named(c.Body, joined(around, names))})
	}
	return n
}

// nameless returns the term of a term with names, or the first error of these.
func (n Named) nameless(around scope) (api.Term, api.Errno) {
	t, e := n.alone(around.number)
	if e != api.OK {
		return api.Term{}, e
	}
	for i, kid := range n.Kids {
		if t.Kids[i], e = kid.nameless(joined(around, n.boundIn(i))); e != api.OK {
			return api.Term{}, e
		}
	}
	if n.Kind != api.Match {
		// Only the Bodies of a Match are parts.
		return t, api.OK
	}
	for i, c := range n.Cases {
		if t.Cases[i].Body, e = c.Body.nameless(joined(around, c.Names)); e != api.OK {
			return api.Term{}, e
		}
	}
	return t, api.OK
}

// alone returns the term of a node with names, without its parts, if the numbers of the variables around it are told; or the error of its names.
func (n Named) alone(number func(name string) (int, bool)) (api.Term, api.Errno) {
	t := api.Term{Kind: n.Kind, Num: n.Num, Ref: n.Ref, Kids: make([]api.Term, len(n.Kids))}
	if len(n.Names) != manyNames(n.Kind, len(n.Kids)) {
		return api.Term{}, api.ErrMany
	}
	if n.Kind == api.Var {
		var is bool
		t.Num, is = number(n.Names[0])
		switch {
		case n.Num != 0:
			return api.Term{}, api.ErrClash
		case !is:
			return api.Term{}, api.ErrNot
		}
	}
	for _, c := range n.Cases {
		if len(c.Names) != many(c.Pat) {
			return api.Term{}, api.ErrMany
		}
		t.Cases = append(t.Cases, api.Case{Pat: copiedPattern(c.Pat)})
	}
	return t, api.OK
}

// manyNames returns how many Names a node of a kind with so many Kids must have.
func manyNames(kind, kids int) int {
	switch kind {
	case api.Var, api.Lam, api.Let:
		return 1
	case api.Handle:
		return boundBefore(kind, kids)
	}
	return 0
}

// boundBefore returns how many variables are bound in the Kids before one.
func boundBefore(kind, kid int) int {
	before := 0
	for i := range kid {
		before += binds(kind, i)
	}
	return before
}

// boundIn returns the names that are bound in a Kid.
func (n Named) boundIn(kid int) []string {
	from := boundBefore(n.Kind, kid)
	return n.Names[from : from+binds(n.Kind, kid)]
}

// name returns the name of the variable with a number.
func (s scope) name(n int) string { return s[len(s)-1-n] }

// number returns the number of the variable with a name that was bound last, and whether there is one.
func (s scope) number(name string) (int, bool) {
	for n := range len(s) {
		if s.name(n) == name {
			return n, true
		}
	}
	return 0, false
}
