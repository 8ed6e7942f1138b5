package knot_test

import (
	"slices"
	"testing"

	"hoarstone/api"
	"hoarstone/knot"
)

// P6.6, P0.2: members of one group have the same digest just if they are alike; members of two groups, just if what shows of them is the same.
func TestAlikeHaveOneDigest(t *testing.T) {
	all := groups(20, 150)
	var seen [][]string
	var named [][]api.Sum
	for _, l := range all {
		seen = append(seen, views(l))
		named = append(named, sums(t, l))
	}
	together, apart := 0, 0
	for a := range all {
		for b := range a + 1 {
			for i := range all[a] {
				for j := range all[b] {
					alike := seen[a][i] == seen[b][j]
					if alike != (named[a][i] == named[b][j]) {
						t.Fatal(told(all[a]), i, told(all[b]), j, alike)
					}
					if alike {
						together++
					} else {
						apart++
					}
				}
			}
		}
	}
	if together < 1000 || apart < 1000 {
		t.Error(together, apart)
	}
}

// P6.6: digests do not hang on the order, nor on copies, nor on what else is in the group.
func TestOrdersAndCopies(t *testing.T) {
	r := seeded(21)
	for _, l := range groups(22, 200) {
		s := sums(t, l)
		order := r.Perm(len(l))
		moved, e := knot.Permute(l, order)
		if e != api.OK {
			t.Fatal(e)
		}
		var want []api.Sum
		for _, i := range order {
			want = append(want, s[i])
		}
		is(t, "moved", sums(t, moved), want, api.OK, api.OK)
		made, of := crowd(r, l)
		want = nil
		for _, i := range of {
			want = append(want, s[i])
		}
		is(t, "copies of "+told(l), sums(t, made), want, api.OK, api.OK)
		if len(l) < api.MaxGroup {
			more := append(slices.Clone(l), some(r, len(l)+1, 10))
			is(t, "one more", sums(t, more)[:len(l)], s, api.OK, api.OK)
		}
	}
}

// P6.6: members have the same digests if what they reach, but is not of their part, is known by its digest.
func TestPartsAlone(t *testing.T) {
	for _, l := range groups(23, 300) {
		s := sums(t, l)
		parts, e := knot.Parts(l)
		if e != api.OK {
			t.Fatal(e)
		}
		firsts, _ := knot.Alike(l)
		for _, part := range parts {
			var alone []api.Term
			var want []api.Sum
			for _, i := range part {
				want = append(want, s[i])
				alone = append(alone, replaced(l[i], func(u api.Term) api.Term {
					if u.Kind == api.Def {
						return u
					}
					if k := slices.Index(part, firsts[u.Num]); k >= 0 {
						return self(k)
					}
					return def(s[u.Num])
				}))
			}
			is(t, "alone", sums(t, alone), want, api.OK, api.OK)
		}
	}
}

// P6.6: a change in a member changes the digests of those that come to it by their calls, and no others.
func TestChanges(t *testing.T) {
	r := seeded(24)
	for _, l := range groups(25, 400) {
		at := r.IntN(len(l))
		changed := slices.Clone(l)
		// No made member has this number in its root.
		changed[at] = app(l[at], nat(123456))
		if knot.Check(changed) != api.OK {
			continue
		}
		before, after := sums(t, l), sums(t, changed)
		reach := webOf(plainCalls(l)).reach
		for i := range l {
			if (before[i] != after[i]) != (i == at || reach[i][at]) {
				t.Error(told(l), at, i)
			}
		}
	}
}

// P6.6: what is opened is verified by its digests, and Close leads back to a group with the same ones.
func TestThereAndBack(t *testing.T) {
	for _, l := range groups(26, 300) {
		s := sums(t, l)
		known := once(knows(s, opened(t, l)))
		wants(t, "Verify", knot.Verify(known), api.OK)
		parts, _ := knot.Parts(l)
		firsts, _ := knot.Alike(l)
		for i := range l {
			back, e := knot.Close(known, s[i])
			if e != api.OK {
				t.Fatal(told(l), e)
			}
			order, _ := knot.Order(l, i)
			var want []api.Sum
			for _, j := range order {
				want = append(want, s[j])
			}
			is(t, "back", sums(t, back), want, api.OK, api.OK)
			own := slices.IndexFunc(parts, func(p []int) bool { return slices.Contains(p, firsts[i]) })
			if len(back) != len(parts[own]) {
				t.Error(told(l), i, len(back))
			}
			// Open of the group is what it came from.
			for k, u := range opened(t, back) {
				place := slices.IndexFunc(known, func(y api.KnownTerm) bool { return y.Sum == want[k] })
				is(t, "opened again", u, known[place].Body, api.OK, api.OK)
			}
		}
	}
}

// P6.1, P6.3: a Self and the Def of the digest of the one that is called are not the same in terms, so that the two are not alike; but what is settled is the same.
func TestNamedByDigest(t *testing.T) {
	one := sums(t, group(nat(1)))[0]
	l := group(nat(1), plus(self(0), self(0)), plus(def(one), def(one)), plus(self(0), def(one)))
	firsts, e := knot.Alike(l)
	is(t, "Alike", firsts, []int{0, 1, 2, 3}, e, api.OK)
	s := sums(t, l)
	if s[1] != s[2] || s[1] != s[3] || s[0] == s[1] {
		t.Error(s)
	}
	is(t, "Open", opened(t, l), append(group(nat(1)), times(3, plus(def(one), def(one)))...), api.OK, api.OK)
}

// Example 1 to 5 of the chapter, where they are not above.
func TestExamples(t *testing.T) {
	loop := group(lam(app(self(0), v(0))))
	s := sums(t, loop)[0]
	is(t, "opened", opened(t, loop), group(lam(app(def(s), v(0)))), api.OK, api.OK)
	known := knows([]api.Sum{s}, opened(t, loop))
	wants(t, "right", knot.Verify(known), api.OK)
	known[0].Sum[31]++
	wants(t, "wrong", knot.Verify(known), api.ErrWrong)
	known[0].Sum[31]--
	back, e := knot.Close(known, s)
	is(t, "back", back, loop, e, api.OK)
	turned := group(lam(app(self(1), v(0))), lam(app(self(0), v(0))))
	is(t, "both", sums(t, turned), []api.Sum{s, s}, api.OK, api.OK)
	there, here := sums(t, group(even(1), odd(0))), sums(t, group(odd(1), even(0)))
	is(t, "order", there, []api.Sum{here[1], here[0]}, api.OK, api.OK)
}
