package term_test

import (
	"cmp"
	"math/rand/v2"
	"reflect"
	"slices"
	"strconv"
	"testing"

	"hoarstone/api"
)

// x returns a digest.
func x(n byte) api.Sum { return api.Sum{n, 31: n} }

func v(n int) api.Term             { return api.Term{Kind: api.Var, Num: n} }
func nat(n int) api.Term           { return api.Term{Kind: api.Nat, Num: n} }
func lam(body api.Term) api.Term   { return api.Term{Kind: api.Lam, Kids: []api.Term{body}} }
func app(f, arg api.Term) api.Term { return api.Term{Kind: api.App, Kids: []api.Term{f, arg}} }
func let(value, body api.Term) api.Term {
	return api.Term{Kind: api.Let, Kids: []api.Term{value, body}}
}
func def(ref api.Sum) api.Term { return api.Term{Kind: api.Def, Ref: ref} }
func self(n int) api.Term      { return api.Term{Kind: api.Self, Num: n} }
func prim(op int, a, b api.Term) api.Term {
	return api.Term{Kind: api.Prim, Num: op, Kids: []api.Term{a, b}}
}
func do(ref api.Sum, n int, arg api.Term) api.Term {
	return api.Term{Kind: api.Do, Ref: ref, Num: n, Kids: []api.Term{arg}}
}
func con(ref api.Sum, n int, fields ...api.Term) api.Term {
	return api.Term{Kind: api.Con, Ref: ref, Num: n, Kids: fields}
}
func handle(ref api.Sum, kids ...api.Term) api.Term {
	return api.Term{Kind: api.Handle, Ref: ref, Kids: kids}
}
func match(what api.Term, cases ...api.Case) api.Term {
	return api.Term{Kind: api.Match, Kids: []api.Term{what}, Cases: cases}
}
func on(p api.Pattern, body api.Term) api.Case { return api.Case{Pat: p, Body: body} }
func pany() api.Pattern                        { return api.Pattern{Kind: api.PAny} }
func pnat(n int) api.Pattern                   { return api.Pattern{Kind: api.PNat, Num: n} }
func pcon(ref api.Sum, n int, fields ...api.Pattern) api.Pattern {
	return api.Pattern{Kind: api.PCon, Ref: ref, Num: n, Kids: fields}
}

// times returns a list of the same element.
func times[T any](n int, one T) []T { return slices.Repeat([]T{one}, n) }

// lams returns a term in so many Lams, one in the other.
func lams(n int, body api.Term) api.Term {
	for range n {
		body = lam(body)
	}
	return body
}

// deepPattern returns a pattern that is nested so deep, with one node on each level.
func deepPattern(n int) api.Pattern {
	p := pnat(0)
	for range n - 1 {
		p = pcon(x(1), 0, p)
	}
	return p
}

// sized returns a right term of so many nodes, all of which but one lie in Cons.
func sized(n int) api.Term {
	if n == 1 {
		return nat(0)
	}
	share := (n - 1) / api.MaxKids
	var kids []api.Term
	for left := n - 1; left > 0; {
		size := min(left, max(share, 1))
		if len(kids) == api.MaxKids-1 {
			size = left
		}
		kids = append(kids, sized(size))
		left -= size
	}
	return con(x(1), 0, kids...)
}

// node is a node of a term, in the order of P4.1, with all that is asked of it.
type node struct {
	pattern      bool
	kind, num    int
	ref          api.Sum
	kids, cases  int
	bound, level int
}

// nodes returns the nodes of a term: it, its patterns, and then those of its parts.
func nodes(t api.Term, bound, level int) []node {
	l := []node{{kind: t.Kind, num: t.Num, ref: t.Ref, kids: len(t.Kids), cases: len(t.Cases), bound: bound, level: level}}
	for _, c := range t.Cases {
		l = append(l, patternNodes(c.Pat, level+1)...)
	}
	for i, kid := range t.Kids {
		more := 0
		switch t.Kind {
		case api.Lam:
			more = 1
		case api.Let:
			more = i
		case api.Handle:
			more = min(i, 2)
		}
		l = append(l, nodes(kid, bound+more, level+1)...)
	}
	if t.Kind == api.Match {
		for _, c := range t.Cases {
			l = append(l, nodes(c.Body, bound+bindings(c.Pat), level+1)...)
		}
	}
	return l
}

// patternNodes returns the nodes of a pattern.
func patternNodes(p api.Pattern, level int) []node {
	l := []node{{pattern: true, kind: p.Kind, num: p.Num, ref: p.Ref, kids: len(p.Kids), level: level}}
	for _, kid := range p.Kids {
		l = append(l, patternNodes(kid, level+1)...)
	}
	return l
}

// bindings returns how many variables a pattern binds.
func bindings(p api.Pattern) int {
	n := 0
	for _, q := range patternNodes(p, 1) {
		if q.kind == api.PAny {
			n++
		}
	}
	return n
}

// plainCheck is Check, written down from the chapter's words, node by node.
func plainCheck(t api.Term, depth, members int) api.Errno {
	l := nodes(t, 0, 1)
	if len(l) > 300 || slices.MaxFunc(l, func(a, b node) int { return cmp.Compare(a.level, b.level) }).level > 60 {
		return api.ErrLong
	}
	for _, n := range l {
		if e := n.fault(depth, members); e != api.OK {
			return e
		}
	}
	return api.OK
}

// fault returns the error of a node.
func (n node) fault(depth, members int) api.Errno {
	kind := n.kind
	if n.pattern {
		// Patterns have numbers of their own behind those of terms.
		if kind < 1 || kind > 3 {
			return api.ErrRange
		}
		kind += 100
	} else if kind < 1 || kind > 12 {
		return api.ErrRange
	}
	var num, ref bool
	least, most, from, to := 0, 0, 0, 0
	switch kind {
	case api.Var, api.Self:
		num, from, to = true, n.num, n.num
	case api.Nat, 100 + api.PNat:
		num, to = true, 1<<30
	case api.Lam, api.Match:
		least, most = 1, 1
	case api.App, api.Let:
		least, most = 2, 2
	case api.Def:
		ref = true
	case api.Con, 100 + api.PCon:
		num, ref, most, to = true, true, 4, 7
	case api.Prim:
		num, least, most, from, to = true, 2, 2, 1, 5
	case api.Do:
		num, ref, least, most, to = true, true, 1, 1, 7
	case api.Handle:
		ref, least, most = true, 2, 10
	}
	switch {
	case !num && n.num != 0, !ref && n.ref != api.Sum{}, kind != api.Match && n.cases > 0:
		return api.ErrClash
	case n.kids < least, n.kids > most, n.cases > 8:
		return api.ErrMany
	case n.num < from, n.num > to:
		return api.ErrRange
	case kind == api.Var && (n.num < 0 || n.num >= n.bound && n.num-n.bound >= depth):
		return api.ErrNot
	case kind == api.Self && (n.num < 0 || n.num >= members):
		return api.ErrNot
	}
	return api.OK
}

// seeded returns numbers that hang on the seed alone.
func seeded(n uint64) *rand.Rand { return rand.New(rand.NewPCG(n, 4)) }

// maker makes right terms.
type maker struct {
	*rand.Rand
	open, left int
}

// some returns a right term with free variables below open (if it is above 0), and about so many nodes at most.
func some(r *rand.Rand, open, size int) api.Term {
	m := &maker{r, open, size}
	return m.term(0, 1)
}

// ref returns one of a few digests.
func (m *maker) ref() api.Sum { return x(byte(m.IntN(4))) }

// term returns a term around which so many variables are bound.
func (m *maker) term(bound, level int) api.Term {
	m.left--
	if m.left <= 0 || level >= 20 {
		return m.leaf(bound)
	}
	sub := func(more int) api.Term { return m.term(bound+more, level+1) }
	switch m.IntN(11) {
	case 0, 1:
		return m.leaf(bound)
	case 2:
		return lam(sub(1))
	case 3:
		return app(sub(0), sub(0))
	case 4:
		return let(sub(0), sub(1))
	case 5:
		var kids []api.Term
		for range m.IntN(5) {
			kids = append(kids, sub(0))
		}
		return con(m.ref(), m.IntN(8), kids...)
	case 6, 7:
		t := match(sub(0))
		for range m.IntN(4) {
			p := m.pattern(level + 1)
			t.Cases = append(t.Cases, on(p, sub(bindings(p))))
		}
		return t
	case 8:
		return prim(1+m.IntN(5), sub(0), sub(0))
	case 9:
		return do(m.ref(), m.IntN(8), sub(0))
	}
	kids := []api.Term{sub(0), sub(1)}
	for range m.IntN(4) {
		kids = append(kids, sub(2))
	}
	return handle(m.ref(), kids...)
}

// leaf returns a term without parts.
func (m *maker) leaf(bound int) api.Term {
	if n := bound + m.open; n > 0 && m.IntN(3) > 0 {
		return v(m.IntN(n))
	}
	switch m.IntN(3) {
	case 0:
		return nat(m.IntN(1<<30 + 1))
	case 1:
		return def(m.ref())
	}
	return self(m.IntN(8))
}

// pattern returns a right pattern.
func (m *maker) pattern(level int) api.Pattern {
	m.left--
	switch m.IntN(4) {
	case 0:
		return pnat(m.IntN(1<<30 + 1))
	case 1:
		if level < 20 {
			var kids []api.Pattern
			for range m.IntN(5) {
				kids = append(kids, m.pattern(level+1))
			}
			return pcon(m.ref(), m.IntN(8), kids...)
		}
	}
	return pany()
}

// cut returns a copy of a value in which all empty lists are nil: they are the same.
func cut[T any](x T) T { return copied(reflect.ValueOf(x), 0).Interface().(T) }

// copied returns a copy of a value in new memory, whose lists have some room behind their ends; without any, empty ones are nil.
func copied(from reflect.Value, room int) reflect.Value {
	to := reflect.New(from.Type()).Elem()
	switch from.Kind() {
	case reflect.Slice:
		if from.Len()+room > 0 {
			to.Set(reflect.MakeSlice(from.Type(), from.Len(), from.Len()+room))
		}
		for i := range from.Len() {
			to.Index(i).Set(copied(from.Index(i), room))
		}
	case reflect.Struct:
		for i := range from.NumField() {
			to.Field(i).Set(copied(from.Field(i), room))
		}
	default:
		to.Set(from)
	}
	return to
}

// same reports whether two values are the same.
func same[T any](a, b T) bool { return reflect.DeepEqual(cut(a), cut(b)) }

// shown returns a term as a text, for what a test says.
func shown(t api.Term) string {
	names := []string{"?", "Var", "Nat", "Lam", "App", "Let", "Def", "Self", "Con", "Match", "Prim", "Do", "Handle"}
	s := names[0]
	if t.Kind > 0 && t.Kind < len(names) {
		s = names[t.Kind]
	}
	s += strconv.Itoa(t.Num) + "("
	for _, kid := range t.Kids {
		s += shown(kid) + " "
	}
	for _, c := range t.Cases {
		s += "| " + strconv.Itoa(len(patternNodes(c.Pat, 1))) + " -> " + shown(c.Body) + " "
	}
	return s + ")"
}

// is tells a test what differs from what is wanted.
func is[T any](t *testing.T, what string, got, want T, e, wantE api.Errno) {
	t.Helper()
	if e != wantE || !same(got, want) {
		t.Errorf("%s: got %v, %v, want %v, %v", what, got, e, want, wantE)
	}
}

// zoo is right terms of all kinds, with all fields, and with each kind of binder.
func zoo() []api.Term {
	return []api.Term{
		v(0), v(59), nat(0), nat(1 << 30), def(x(0)), def(x(3)), self(0), self(7),
		lam(app(v(0), v(1))), lam(lam(lam(app(v(2), app(v(1), app(v(0), v(3))))))),
		let(v(0), app(v(0), v(1))), prim(api.Plus, v(1), nat(2)), prim(api.Less, v(59), v(58)),
		con(x(2), 7, v(0), v(1), v(2), v(3)), con(x(2), 0), do(x(1), 7, v(4)),
		match(v(0)),
		match(v(0), on(pcon(x(1), 1, pany(), pnat(3), pany()), app(v(1), v(2))), on(pany(), app(v(0), v(1))), on(pnat(1<<30), v(0))),
		handle(x(1), v(0), app(v(0), v(1))),
		handle(x(1), do(x(1), 0, v(0)), v(0), app(v(0), app(v(1), v(2))), app(v(1), v(3))),
		lam(match(v(0), on(pcon(x(4), 0, pcon(x(5), 7, pany(), pany()), pany()), handle(x(6), v(2), v(3), app(v(4), v(5)))))),
	}
}

// right is the zoo, and terms that are made.
func right(seed uint64, n int) []api.Term {
	l := zoo()
	r := seeded(seed)
	for range n {
		if t := some(r, []int{0, 1, 3, 60}[r.IntN(4)], 1+r.IntN(60)); len(nodes(t, 0, 1)) <= 300 {
			l = append(l, t)
		}
	}
	return l
}

// round returns terms that are in themselves.
func round() []api.Term {
	self := lam(nat(0))
	self.Kids[0] = self
	wide := con(x(1), 0, nat(0), nat(1), nat(2))
	wide.Kids[0], wide.Kids[1], wide.Kids[2] = wide, wide, wide
	body := match(nat(0), on(pany(), nat(0)))
	body.Cases[0].Body = body
	p := pcon(x(1), 0, pany(), pany())
	p.Kids[0], p.Kids[1] = p, p
	return []api.Term{self, wide, body, match(nat(0), on(p, nat(0)))}
}
