package decl_test

import (
	"fmt"
	"slices"
	"testing"

	"hoarstone/api"
	"hoarstone/decl"
)

// P5.7: of all members of many groups, those have the same digest of which the same shows in all steps, and no others.
func TestSameDigests(t *testing.T) {
	byView, bySum := map[string]api.Sum{}, map[api.Sum]string{}
	again := 0
	for _, l := range groups(14, 3000) {
		s := sums(t, l)
		for i, v := range views(l) {
			if other, is := byView[v]; is {
				again++
				if other != s[i] {
					t.Errorf("%d of %v: another digest than before", i, l)
				}
			}
			if other, is := bySum[s[i]]; is && other != v {
				t.Errorf("%d of %v: the digest of another one", i, l)
			}
			byView[v], bySum[s[i]] = s[i], v
		}
	}
	if again < 3000 || len(byView) < 2000 {
		t.Error(again, len(byView))
	}
}

// permuted returns a group whose member k is the old member order[k].
func permuted(l []api.Data, order []int) []api.Data {
	var made []api.Data
	for _, i := range order {
		made = append(made, renumbered(l[i], func(n int) int { return slices.Index(order, n) }))
	}
	return made
}

// P5.7: in another order, with copies, and with more members, all have the same digests, and codes.
func TestOtherGroups(t *testing.T) {
	m := maker{Rand: seeded(15), w: full()}
	joined := 0
	l := groups(16, 1500)
	for k, one := range l {
		s := sums(t, one)
		order := m.Perm(len(one))
		turned := permuted(one, order)
		for i, x := range sums(t, turned) {
			if x != s[order[i]] {
				t.Errorf("%v by %v: %d", one, order, i)
			}
			code, e := decl.Code(turned, i)
			is(t, "Code", code, must(decl.Code(one, order[i])), e, api.OK)
		}
		// With copies that mention whichever copies.
		var met []api.Sum
		for _, x := range sums(t, crowd(m, one)) {
			if !slices.Contains(s, x) {
				t.Errorf("%v: a copy has another digest", one)
			}
			met = append(met, x)
		}
		for _, x := range s {
			if !slices.Contains(met, x) {
				t.Errorf("%v: with copies another digest", one)
			}
		}
		// With another group before it, or behind it.
		other := l[(k*31)%len(l)]
		if len(one)+len(other) > api.MaxGroup || len(all(fieldTypes(one)))+len(all(fieldTypes(other))) > decl.MaxTypes {
			continue
		}
		joined++
		both := slices.Clone(one)
		for _, d := range other {
			both = append(both, renumbered(d, func(n int) int { return n + len(one) }))
		}
		is(t, "joined", sums(t, both), append(slices.Clone(s), sums(t, other)...), api.OK, api.OK)
	}
	if joined < 200 {
		t.Error(joined)
	}
}

// P5.7: each part alone, with all that it reaches known by its digest, has the digests that it has in its group.
func TestKnownByDigest(t *testing.T) {
	apart := 0
	for _, l := range groups(17, 1500) {
		s := sums(t, l)
		p, e := decl.Parts(l)
		wants(t, "Parts", e, api.OK)
		firsts, _ := decl.Alike(l)
		for _, part := range p {
			var alone []api.Data
			for _, i := range part {
				alone = append(alone, reselved(l[i], func(u api.Type) api.Type {
					if k := slices.Index(part, firsts[u.Num]); k >= 0 {
						u.Num = k
						return u
					}
					return data(s[u.Num], u.Kids...)
				}))
			}
			for k, x := range sums(t, alone) {
				if x != s[part[k]] {
					t.Errorf("%v: %v", l, part)
				}
			}
			if len(p) > 1 {
				apart++
			}
		}
		// Only some members of the group, with all others that they reach known: what is left of it is right.
		last := p[len(p)-1]
		var left []api.Data
		var numbers []int
		for i := range l {
			if !slices.Contains(last, firsts[i]) {
				numbers = append(numbers, i)
			}
		}
		for _, i := range numbers {
			left = append(left, renumbered(l[i], func(n int) int { return slices.Index(numbers, n) }))
		}
		if len(left) > 0 {
			var want []api.Sum
			for _, i := range numbers {
				want = append(want, s[i])
			}
			is(t, "without the last part", sums(t, left), want, api.OK, api.OK)
		}
	}
	if apart < 1000 {
		t.Error(apart)
	}
}

// P5.7: also in one group, what mentions a member and what names it by its digest have the same digest.
func TestMentionedAndKnown(t *testing.T) {
	end := cons(fields(nat()))
	known := sums(t, group(end))[0]
	s := sums(t, group(cons(fields(self(1))), end, cons(fields(data(known))), cons(fields(self(2))), cons(fields(self(0)))))
	if s[0] != s[2] || s[3] != s[4] || s[1] != known || s[0] == s[1] || s[3] == s[0] {
		t.Error(s)
	}
}

// P5.7: what is changed in a member changes its digest, and those of the members that reach it, and of no others.
func TestChangedMember(t *testing.T) {
	r := seeded(18)
	for _, l := range groups(19, 600) {
		s := sums(t, l)
		i := r.IntN(len(l))
		changed := slices.Clone(l)
		changed[i] = cut(l[i])
		changed[i].Unique = "other"
		b := bondOf(l)
		firsts := b.firsts
		// Copies are told apart by the change: here nothing is said of these.
		if plainDatas(changed) != api.OK || slices.Index(firsts, firsts[i]) != i || slices.Contains(firsts[i+1:], i) {
			continue
		}
		for k, x := range sums(t, changed) {
			if reaches := b.reach[firsts[k]][i]; (x != s[k]) != (k == i || reaches) {
				t.Errorf("%v: %d changes %d: %v", l, i, k, x != s[k])
			}
		}
	}
}

// P5.7: what is opened is right in a world in which it is known, and each digest comes once; its declarations have the fields that the group says.
func TestOpenIsRight(t *testing.T) {
	right := 0
	for _, l := range groups(20, 800) {
		k := must(decl.Open(l))
		s := sums(t, l)
		w := full()
		w.Datas = append(w.Datas, k...)
		if e := decl.CheckDatas(w, l); e != api.OK {
			// The group itself names what is not known: then what is opened does so, too.
			wants(t, "CheckWorld", decl.CheckWorld(w), plainWorld(w))
			continue
		}
		wants(t, fmt.Sprint(l), decl.CheckWorld(w), api.OK)
		right++
		for i, d := range l {
			var params []api.Type
			for n := range d.Params {
				params = append(params, tv(n))
			}
			for con, want := range d.Cons {
				var types []api.Type
				for _, field := range reselved(cons(want), func(u api.Type) api.Type { return data(s[u.Num], u.Kids...) }).Cons[0] {
					types = append(types, field)
				}
				got, e := decl.Fields(w, data(s[i], params...), con)
				is(t, "Fields", got, types, e, api.OK)
			}
		}
	}
	if right < 500 {
		t.Error(right)
	}
}

// P5.7: the code of a member leads back to a group of its part, with the same digests.
func TestCodesLeadBack(t *testing.T) {
	for _, l := range groups(21, 800) {
		s := sums(t, l)
		for i := range l {
			back, e := decl.FromCode(must(decl.Code(l, i)))
			wants(t, "FromCode", e, api.OK)
			if got := sums(t, back); got[0] != s[i] {
				t.Errorf("%v: %d", l, i)
			}
			firsts, _ := decl.Alike(back)
			p, _ := decl.Parts(back)
			if !slices.Equal(firsts, slices.Sorted(slices.Values(firsts))) || len(p) != 1 || len(p[0]) != len(back) {
				t.Errorf("%v: %v", l, p)
			}
		}
	}
}

// P5.7: variables put for themselves change nothing; what is put twice is put at once.
func TestPutTwice(t *testing.T) {
	r := seeded(22)
	there := 0
	for range 4000 {
		m := maker{r, full(), 4, 4, []int{0, 2}}
		u := m.some(3)
		types, rows := own(4, 4)
		is(t, "by themselves", put(t, u, types, rows), u, api.OK, api.OK)
		var first, second []api.Type
		var firstRows, secondRows []api.Row
		for range 4 {
			first, second = append(first, m.some(2)), append(second, m.some(2))
			firstRows, secondRows = append(firstRows, m.row()), append(secondRows, m.row())
		}
		once, e := decl.Put(u, first, firstRows)
		twice, f := decl.Put(once, second, secondRows)
		var types2 []api.Type
		var rows2 []api.Row
		for i := range 4 {
			types2 = append(types2, put(t, first[i], second, secondRows))
			// A row is that of a function.
			rows2 = append(rows2, put(t, fun(nat(), nat(), firstRows[i]), second, secondRows).Row)
		}
		if e != api.OK || f != api.OK {
			continue
		}
		there++
		is(t, "at once", put(t, u, types2, rows2), twice, api.OK, api.OK)
	}
	if there < 2000 {
		t.Error(there)
	}
	for _, u := range zoo() {
		types, rows := own(decl.MaxVar, decl.MaxVar)
		is(t, "by themselves", put(t, u, types, rows), u, api.OK, api.OK)
	}
}

// P5.7: Normal of a normal type is itself, and it is Put of its variables back.
func TestNormalAgain(t *testing.T) {
	r := seeded(23)
	for range 2000 {
		u := maker{r, full(), 900, 900, []int{0, 2}}.some(4)
		if len(flat(u, 61)) > 60 {
			continue
		}
		s := must(decl.Normal(u))
		again, e := decl.Normal(s.Type)
		is(t, "again", again, s, e, api.OK)
		types, rows, e := decl.Variables(u)
		wants(t, "Variables", e, api.OK)
		var back []api.Type
		var backRows []api.Row
		for _, n := range types {
			back = append(back, tv(n))
		}
		for _, n := range rows {
			backRows = append(backRows, open(n))
		}
		is(t, "back", put(t, s.Type, back, backRows), u, api.OK, api.OK)
		if s.Vars != len(types) || s.Rows != len(rows) {
			t.Error(s)
		}
	}
}

// P5.7: a type that is inhabited stays so if its arguments are exchanged for inhabited ones.
func TestInhabitedStays(t *testing.T) {
	r := seeded(24)
	there := 0
	for range 600 {
		w := lean(maker{Rand: r})
		m := maker{r, w, 5, 5, nil}
		var full []api.Type
		for range 30 {
			if u := m.some(2); must(decl.Inhabited(w, u)) {
				full = append(full, u)
			}
		}
		for _, u := range full {
			if u.Kind != api.TData {
				continue
			}
			v := cut(u)
			for i := range v.Kids {
				if r.IntN(3) > 0 {
					v.Kids[i] = full[r.IntN(len(full))]
				}
			}
			there++
			if len(flat(v, 61)) <= 60 && !must(decl.Inhabited(w, v)) {
				t.Errorf("%s, but not %s", shown(u), shown(v))
			}
		}
	}
	if there < 500 {
		t.Error(there)
	}
}

// P5.1 to P5.6: example 4, and what it says of rows.
func TestExamples(t *testing.T) {
	a := x(1)
	u := put(t, fun(tv(0), tv(1), open(0, a)), fields(nat(), nat()), []api.Row{open(5, a)})
	is(t, "Put", u, fun(nat(), nat(), open(5, a, a)), api.OK, api.OK)
	s, e := decl.Normal(u)
	is(t, "Normal", s, api.Scheme{Rows: 1, Type: fun(nat(), nat(), open(0, a, a))}, e, api.OK)
	k := must(decl.Open(group(list(0))))
	w := api.World{Datas: k}
	l, e := decl.Fields(w, data(k[0].Sum, nat()), 1)
	is(t, "Fields", l, fields(nat(), data(k[0].Sum, nat())), e, api.OK)
	l, e = decl.Fields(w, data(k[0].Sum, nat()), 2)
	is(t, "Fields", l, nil, e, api.ErrNot)
}
