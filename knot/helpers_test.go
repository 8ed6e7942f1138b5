package knot_test

import (
	"math/rand/v2"
	"reflect"
	"slices"
	"strconv"
	"testing"

	"hoarstone/api"
	"hoarstone/knot"
)

// x returns a digest; they rise with their numbers.
func x(n byte) api.Sum { return api.Sum{n, 31: n} }

func v(n int) api.Term             { return api.Term{Kind: api.Var, Num: n} }
func nat(n int) api.Term           { return api.Term{Kind: api.Nat, Num: n} }
func lam(body api.Term) api.Term   { return api.Term{Kind: api.Lam, Kids: []api.Term{body}} }
func app(f, arg api.Term) api.Term { return api.Term{Kind: api.App, Kids: []api.Term{f, arg}} }
func let(value, body api.Term) api.Term {
	return api.Term{Kind: api.Let, Kids: []api.Term{value, body}}
}
func def(ref api.Sum) api.Term { return api.Term{Kind: api.Def, Ref: ref} }
func self(n int) api.Term      { return api.Term{Kind: api.Self, Num: n} }
func prim(op int, a, b api.Term) api.Term {
	return api.Term{Kind: api.Prim, Num: op, Kids: []api.Term{a, b}}
}
func plus(a, b api.Term) api.Term { return prim(api.Plus, a, b) }
func do(ref api.Sum, n int, arg api.Term) api.Term {
	return api.Term{Kind: api.Do, Ref: ref, Num: n, Kids: []api.Term{arg}}
}
func con(ref api.Sum, n int, fields ...api.Term) api.Term {
	return api.Term{Kind: api.Con, Ref: ref, Num: n, Kids: fields}
}
func handle(ref api.Sum, kids ...api.Term) api.Term {
	return api.Term{Kind: api.Handle, Ref: ref, Kids: kids}
}
func match(what api.Term, cases ...api.Case) api.Term {
	return api.Term{Kind: api.Match, Kids: []api.Term{what}, Cases: cases}
}
func on(p api.Pattern, body api.Term) api.Case { return api.Case{Pat: p, Body: body} }
func pany() api.Pattern                        { return api.Pattern{Kind: api.PAny} }
func pnat(n int) api.Pattern                   { return api.Pattern{Kind: api.PNat, Num: n} }
func pcon(ref api.Sum, n int, fields ...api.Pattern) api.Pattern {
	return api.Pattern{Kind: api.PCon, Ref: ref, Num: n, Kids: fields}
}

// group is a list of terms.
func group(l ...api.Term) []api.Term { return l }

// knows returns what is known if each term has the digest of the same place.
func knows(sums []api.Sum, l []api.Term) []api.KnownTerm {
	var all []api.KnownTerm
	for i, t := range l {
		all = append(all, api.KnownTerm{Sum: sums[i], Body: t})
	}
	return all
}

// once returns what is known without those whose digest came before.
func once(l []api.KnownTerm) []api.KnownTerm {
	met := map[api.Sum]bool{}
	return slices.DeleteFunc(slices.Clone(l), func(k api.KnownTerm) bool {
		was := met[k.Sum]
		met[k.Sum] = true
		return was
	})
}

// times returns a list of the same element.
func times[T any](n int, one T) []T { return slices.Repeat([]T{one}, n) }

// lams returns a term in so many Lams, one in the other.
func lams(n int, body api.Term) api.Term {
	for range n {
		body = lam(body)
	}
	return body
}

// holding returns a right term of so many nodes whose first leaf is a given one, and whose other leaves are Defs.
func holding(leaf api.Term, nodes int) api.Term {
	if nodes == 1 {
		return leaf
	}
	share := (nodes - 1) / api.MaxKids
	var kids []api.Term
	for left := nodes - 1; left > 0; {
		size := min(left, max(share, 1))
		if len(kids) == api.MaxKids-1 {
			size = left
		}
		kids = append(kids, holding(leaf, size))
		leaf = def(x(9))
		left -= size
	}
	return con(x(1), 7, kids...)
}

// ring returns so many members of so many nodes, each of which calls the next one, and none of which is alike to another one.
func ring(members, nodes int) []api.Term {
	var l []api.Term
	for i := range members {
		l = append(l, holding(app(self((i+1)%members), nat(i)), nodes-2))
	}
	return l
}

// even and odd call each other by the numbers that they have.
func even(odd int) api.Term { return parity(1, odd) }
func odd(even int) api.Term { return parity(0, even) }
func parity(zero, other int) api.Term {
	return lam(match(v(0), on(pnat(0), nat(zero)), on(pany(), app(self(other), prim(api.Minus, v(0), nat(1))))))
}

// round returns terms that are in themselves.
func round() []api.Term {
	inner := lam(nat(0))
	inner.Kids[0] = inner
	wide := con(x(1), 0, nat(0), nat(1), nat(2))
	wide.Kids[0], wide.Kids[1], wide.Kids[2] = wide, wide, wide
	body := match(nat(0), on(pany(), nat(0)))
	body.Cases[0].Body = body
	p := pcon(x(1), 0, pany(), pany())
	p.Kids[0], p.Kids[1] = p, p
	clash := app(nat(0), nat(0))
	clash.Cases = []api.Case{on(p, nat(0))}
	return []api.Term{inner, wide, body, match(nat(0), on(p, nat(0))), clash}
}

// seeded returns numbers that hang on the seed alone.
func seeded(n uint64) *rand.Rand { return rand.New(rand.NewPCG(n, 6)) }

// maker makes right terms without free variables, of groups of so many members.
type maker struct {
	*rand.Rand
	members, left int
}

// some returns a right term of about so many nodes at most.
func some(r *rand.Rand, members, size int) api.Term {
	m := &maker{r, members, size}
	return m.term(0, 1)
}

// ref returns one of a few digests.
func (m *maker) ref() api.Sum { return x(byte(m.IntN(4))) }

// term returns a term around which so many variables are bound.
func (m *maker) term(bound, level int) api.Term {
	m.left--
	if m.left <= 0 || level >= 20 {
		return m.leaf(bound)
	}
	sub := func(more int) api.Term { return m.term(bound+more, level+1) }
	switch m.IntN(11) {
	case 0, 1:
		return m.leaf(bound)
	case 2:
		return lam(sub(1))
	case 3:
		return app(sub(0), sub(0))
	case 4:
		return let(sub(0), sub(1))
	case 5:
		var kids []api.Term
		for range m.IntN(5) {
			kids = append(kids, sub(0))
		}
		return con(m.ref(), m.IntN(8), kids...)
	case 6, 7:
		t := match(sub(0))
		for range m.IntN(4) {
			p, bindings := m.pattern(level + 1)
			t.Cases = append(t.Cases, on(p, sub(bindings)))
		}
		return t
	case 8:
		return prim(1+m.IntN(5), sub(0), sub(0))
	case 9:
		return do(m.ref(), m.IntN(8), sub(0))
	}
	kids := []api.Term{sub(0), sub(1)}
	for range m.IntN(4) {
		kids = append(kids, sub(2))
	}
	return handle(m.ref(), kids...)
}

// leaf returns a term without parts.
func (m *maker) leaf(bound int) api.Term {
	switch k := m.IntN(6); {
	case k < 2 && bound > 0:
		return v(m.IntN(bound))
	case k < 5 && m.members > 0:
		return self(m.IntN(m.members))
	case k == 5:
		return def(m.ref())
	}
	return nat(m.IntN(1<<30 + 1))
}

// pattern returns a right pattern, and how many variables it binds.
func (m *maker) pattern(level int) (api.Pattern, int) {
	m.left--
	switch m.IntN(4) {
	case 0:
		return pnat(m.IntN(1<<30 + 1)), 0
	case 1:
		if level < 20 {
			var kids []api.Pattern
			all := 0
			for range m.IntN(5) {
				kid, bindings := m.pattern(level + 1)
				kids = append(kids, kid)
				all += bindings
			}
			return pcon(m.ref(), m.IntN(8), kids...), all
		}
	}
	return pany(), 1
}

// large returns a group of members of any form.
func large(r *rand.Rand) []api.Term {
	members := 1 + r.IntN(api.MaxGroup)
	var l []api.Term
	for range members {
		l = append(l, some(r, members, 1+r.IntN(30)))
	}
	return l
}

// small returns a group of at most so many members of few forms, of which many are alike, or nearly.
func small(r *rand.Rand, most int) []api.Term {
	members := 1 + r.IntN(most)
	one := func() api.Term { return self(r.IntN(members)) }
	var l []api.Term
	for range members {
		switch r.IntN(8) {
		case 0:
			l = append(l, nat(r.IntN(2)))
		case 1, 2:
			l = append(l, lam(app(one(), v(0))))
		case 3:
			l = append(l, one())
		case 4:
			l = append(l, match(one(), on(pany(), one())))
		case 5:
			l = append(l, app(one(), def(x(byte(r.IntN(2))))))
		default:
			l = append(l, plus(one(), one()))
		}
	}
	return l
}

// crowd returns a group in which members of another one come several times, and call any of those that stand for the same one, in any order; and which one each member stands for.
func crowd(r *rand.Rand, l []api.Term) ([]api.Term, []int) {
	var of []int
	for i := range l {
		of = append(of, i)
	}
	for len(of) < api.MaxGroup && r.IntN(3) > 0 {
		of = append(of, r.IntN(len(l)))
	}
	r.Shuffle(len(of), func(i, j int) { of[i], of[j] = of[j], of[i] })
	var all []api.Term
	for _, i := range of {
		all = append(all, renumbered(l[i], func(n int) int {
			for {
				if k := r.IntN(len(of)); of[k] == n {
					return k
				}
			}
		}))
	}
	return all, of
}

// groups returns groups of many sorts.
func groups(seed uint64, n int) [][]api.Term {
	l := [][]api.Term{
		{nat(1)}, {self(0)}, {lam(app(self(0), v(0)))}, {even(1), odd(0)}, {odd(1), even(0)},
		{lam(app(self(1), v(0))), lam(app(self(0), v(0)))}, {nat(1), plus(self(0), self(0))}, {nat(1), plus(self(2), self(0)), nat(1)},
		{plus(self(1), self(2)), plus(self(2), self(1)), nat(3)}, {self(1), self(2), self(3), self(4), self(5), self(6), self(7), self(0)},
		ring(6, 300), ring(8, 9),
	}
	r := seeded(seed)
	for range n {
		switch r.IntN(3) {
		case 0:
			l = append(l, large(r))
		case 1:
			l = append(l, small(r, api.MaxGroup))
		default:
			made, _ := crowd(r, small(r, 4))
			l = append(l, made)
		}
	}
	return l
}

// cut returns a copy of a value in which all empty lists are nil: they are the same.
func cut[T any](x T) T { return copied(reflect.ValueOf(x), 0).Interface().(T) }

// copied returns a copy of a value in new memory, whose lists have some room behind their ends; without any, empty ones are nil.
func copied(from reflect.Value, room int) reflect.Value {
	to := reflect.New(from.Type()).Elem()
	switch from.Kind() {
	case reflect.Slice:
		if from.Len()+room > 0 {
			to.Set(reflect.MakeSlice(from.Type(), from.Len(), from.Len()+room))
		}
		for i := range from.Len() {
			to.Index(i).Set(copied(from.Index(i), room))
		}
	case reflect.Struct:
		for i := range from.NumField() {
			to.Field(i).Set(copied(from.Field(i), room))
		}
	default:
		to.Set(from)
	}
	return to
}

// same reports whether two values are the same.
func same[T any](a, b T) bool { return reflect.DeepEqual(cut(a), cut(b)) }

// is tells a test what differs from what is wanted.
func is[T any](t *testing.T, what string, got, want T, e, wantE api.Errno) {
	t.Helper()
	if e != wantE || !same(got, want) {
		t.Errorf("%s: got %v, %v, want %v, %v", what, got, e, want, wantE)
	}
}

// wants tells a test of an error that is another one than it should be.
func wants(t *testing.T, what string, got, want api.Errno) {
	t.Helper()
	if got != want {
		t.Errorf("%s: got %v, want %v", what, got, want)
	}
}

// shown returns a term as a text, for what a test says.
func shown(t api.Term) string {
	names := []string{"?", "Var", "Nat", "Lam", "App", "Let", "Def", "Self", "Con", "Match", "Prim", "Do", "Handle"}
	s := names[0]
	if t.Kind > 0 && t.Kind < len(names) {
		s = names[t.Kind]
	}
	s += strconv.Itoa(t.Num) + "("
	for _, kid := range t.Kids {
		s += shown(kid) + " "
	}
	for _, c := range t.Cases {
		s += "| " + shown(c.Body) + " "
	}
	return s + ")"
}

// told returns a group as a text.
func told(l []api.Term) string {
	s := ""
	for _, t := range l {
		s += shown(t) + "; "
	}
	return s
}

// sums is Sums where no error is expected.
func sums(t *testing.T, l []api.Term) []api.Sum {
	t.Helper()
	s, e := knot.Sums(l)
	if e != api.OK {
		t.Fatalf("Sums of %s: %v", told(l), e)
	}
	return s
}

// opened is Open where no error is expected.
func opened(t *testing.T, l []api.Term) []api.Term {
	t.Helper()
	made, e := knot.Open(l)
	if e != api.OK {
		t.Fatalf("Open of %s: %v", told(l), e)
	}
	return made
}
