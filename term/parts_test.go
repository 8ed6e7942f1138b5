package term_test

import (
	"bytes"
	"math"
	"slices"
	"strconv"
	"testing"

	"hoarstone/api"
	"hoarstone/term"
)

// plainRefs returns the digests of those nodes of a term that are of one of the kinds, rising, each once.
func plainRefs(t api.Term, kinds, patterns []int) []api.Sum {
	var l []api.Sum
	for _, n := range nodes(t, 0, 1) {
		if !n.pattern && slices.Contains(kinds, n.kind) || n.pattern && slices.Contains(patterns, n.kind) {
			l = append(l, n.ref)
		}
	}
	slices.SortFunc(l, func(a, b api.Sum) int { return bytes.Compare(a[:], b[:]) })
	return slices.Compact(l)
}

// P4.3: the references of a term, each list rising, each digest once.
func TestRefs(t *testing.T) {
	last := api.Sum{31: 9}
	u := app(def(x(3)), con(x(1), 0, def(x(2)), do(x(1), 0, def(x(3))), match(con(last, 0), on(pcon(x(5), 0, pcon(x(4), 0), pcon(x(5), 1)), handle(x(7), def(x(255)), handle(api.Sum{}, nat(0), do(x(6), 0, nat(0))))))))
	defs, datas, abilities, e := term.Refs(u)
	is(t, "defs", defs, []api.Sum{x(2), x(3), x(255)}, e, api.OK)
	is(t, "datas", datas, []api.Sum{last, x(1), x(4), x(5)}, e, api.OK)
	is(t, "abilities", abilities, []api.Sum{{}, x(1), x(6), x(7)}, e, api.OK)
	for _, u := range right(7, 400) {
		defs, datas, abilities, e := term.Refs(u)
		is(t, "defs", defs, plainRefs(u, []int{api.Def}, nil), e, api.OK)
		is(t, "datas", datas, plainRefs(u, []int{api.Con}, []int{api.PCon}), e, api.OK)
		is(t, "abilities", abilities, plainRefs(u, []int{api.Do, api.Handle}, nil), e, api.OK)
	}
	defs, datas, abilities, e = term.Refs(app(def(x(1)), api.Term{Kind: api.Nat, Ref: x(1)}))
	if len(defs)+len(datas)+len(abilities) > 0 || e != api.ErrClash {
		t.Error(defs, datas, abilities, e)
	}
}

// P4.3: each Ref is replaced, wherever it is, and nothing that is not a Ref.
func TestReplace(t *testing.T) {
	a, b, c := x(1), x(2), x(3)
	of := func(x api.Sum) api.Term {
		return lam(app(def(x), con(x, 1, def(b), handle(x, do(x, 2, nat(1)), match(con(b, 0), on(pcon(x, 3, pany(), pcon(b, 0, pcon(x, 0))), def(x)), on(pnat(1), def(b))), v(0)))))
	}
	made, e := term.Replace(of(a), a, c)
	is(t, "Replace", made, of(c), e, api.OK)
	made, e = term.Replace(of(a), c, a)
	is(t, "nothing", made, of(a), e, api.OK)
	made, e = term.Replace(of(a), a, a)
	is(t, "itself", made, of(a), e, api.OK)
	made, e = term.Replace(of(a), a, b)
	is(t, "one", made, of(b), e, api.OK)
	// The digest of zeros is one as any other; nodes without a Ref have none.
	made, e = term.Replace(of(api.Sum{}), api.Sum{}, c)
	is(t, "from zeros", made, of(c), e, api.OK)
	made, e = term.Replace(of(c), c, api.Sum{})
	is(t, "to zeros", made, of(api.Sum{}), e, api.OK)
	for _, u := range right(8, 200) {
		zeros, e := term.Replace(u, x(0), api.Sum{})
		if e != api.OK || !term.Same(u, zeros) { // x(0) is the digest of zeros
			t.Error(shown(u), e)
		}
		there, e := term.Replace(u, api.Sum{}, x(100))
		if e != api.OK || plainCheck(there, 60, 8) != api.OK {
			t.Error(shown(u), e)
		}
		back, e := term.Replace(there, x(100), api.Sum{})
		is(t, "and back", back, u, e, api.OK)
	}
}

// paths returns the paths to all parts of a term, and the parts.
func paths(t api.Term) (l [][]int, parts []api.Term) {
	l, parts = [][]int{{}}, []api.Term{t}
	all := slices.Clone(t.Kids)
	for _, c := range t.Cases {
		all = append(all, c.Body)
	}
	for i, part := range all {
		below, there := paths(part)
		for j := range below {
			l = append(l, append([]int{i}, below[j]...))
		}
		parts = append(parts, there...)
	}
	return l, parts
}

// P4.3: a path leads to each part, and to nothing else; what is put there is found there, and nothing else is another one.
func TestPaths(t *testing.T) {
	r := seeded(9)
	for _, u := range right(10, 25) {
		l, parts := paths(u)
		for i, path := range l {
			part, e := term.At(u, path)
			is(t, "At", part, parts[i], e, api.OK)
			w := some(r, 60, 3)
			made, e := term.Put(u, path, w)
			if e == api.ErrLong {
				continue
			}
			part, f := term.At(made, path)
			is(t, "put there", part, w, f, e)
			for j, other := range l {
				// What is neither around nor in it.
				if n := min(len(path), len(other)); !slices.Equal(path[:n], other[:n]) {
					part, e := term.At(made, other)
					is(t, "beside it", part, parts[j], e, api.OK)
				}
			}
		}
		for _, path := range l {
			end, _ := term.At(u, path)
			many := len(end.Kids) + len(end.Cases)
			for _, i := range []int{math.MinInt, -1, many, many + 1, math.MaxInt} {
				for _, more := range [][]int{{i}, {i, 0}} {
					wrong := slices.Concat(path, more)
					part, e := term.At(u, wrong)
					is(t, "At", part, api.Term{}, e, api.ErrNot)
					made, e := term.Put(u, wrong, nat(0))
					is(t, "Put", made, api.Term{}, e, api.ErrNot)
				}
			}
		}
	}
}

// P4.3: the parts of a Match are its Kid and the Bodies; what is put has the numbers that it has there, and may be caught.
func TestPut(t *testing.T) {
	u := match(v(0), on(pany(), app(v(0), v(1))), on(pcon(x(1), 0, pany(), pany()), v(2)))
	for i, y := range []struct {
		path     []int
		at, with api.Term
	}{
		{nil, u, v(1)}, {[]int{}, u, v(1)}, {[]int{0}, v(0), match(v(1), u.Cases...)}, {[]int{1}, app(v(0), v(1)), match(v(0), on(pany(), v(1)), u.Cases[1])},
		{[]int{1, 0}, v(0), match(v(0), on(pany(), app(v(1), v(1))), u.Cases[1])}, {[]int{2}, v(2), match(v(0), u.Cases[0], on(u.Cases[1].Pat, v(1)))},
	} {
		got, e := term.At(u, y.path)
		is(t, "At "+strconv.Itoa(i), got, y.at, e, api.OK)
		made, e := term.Put(u, y.path, v(1))
		is(t, "Put "+strconv.Itoa(i), made, y.with, e, api.OK)
	}
	made, e := term.Put(lam(lam(nat(0))), []int{0, 0}, app(v(0), app(v(1), v(59))))
	is(t, "caught", made, lam(lam(app(v(0), app(v(1), v(59))))), e, api.OK)
	free, e := term.Free(made)
	is(t, "caught", free, []int{57}, e, api.OK)
	bad := api.Term{}
	for i, y := range []struct {
		t    api.Term
		path []int
		u    api.Term
		want api.Errno
	}{
		{lam(nat(0)), []int{0}, lams(58, nat(0)), api.OK}, {lam(nat(0)), []int{0}, lams(59, nat(0)), api.ErrLong}, {lam(nat(0)), []int{1}, lams(59, nat(0)), api.ErrNot}, {lam(nat(0)), []int{0, 0}, sized(300), api.ErrNot},
		{app(nat(0), nat(0)), []int{1}, sized(298), api.OK}, {app(nat(0), nat(0)), []int{1}, sized(299), api.ErrLong}, {sized(300), nil, sized(300), api.OK}, {lams(59, nat(0)), make([]int, 59), nat(1), api.OK},
		{lams(59, nat(0)), make([]int, 59), lam(nat(1)), api.ErrLong}, {lams(59, nat(0)), make([]int, 60), lam(nat(1)), api.ErrNot},
		{bad, nil, nat(-1), api.ErrRange}, {api.Term{Kind: api.Lam}, nil, nat(-1), api.ErrMany}, {nat(0), []int{0}, v(60), api.ErrNot}, {nat(0), []int{0}, api.Term{Kind: api.Lam}, api.ErrMany}, {lam(nat(0)), []int{0}, sized(301), api.ErrLong},
		{lam(nat(0)), []int{7}, nat(-1), api.ErrRange},
	} {
		made, e := term.Put(y.t, y.path, y.u)
		if e != y.want || e != api.OK && !same(made, bad) {
			t.Error(i, e, shown(made))
		}
	}
	// In a term that is right a part may have variables that are too many in front of it.
	far := lams(3, v(62))
	got, e := term.At(far, []int{0, 0, 0})
	is(t, "far", got, v(62), e, api.OK)
	made, e = term.Put(far, []int{0, 0, 0}, v(62))
	is(t, "far", made, bad, e, api.ErrNot)
}
