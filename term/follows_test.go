package term_test

import (
	"slices"
	"testing"

	"hoarstone/api"
	"hoarstone/term"
)

// P4.6: whatever names bound variables have, the term is the same, and so is what is put into it.
func TestWhateverNames(t *testing.T) {
	free := fronts(60)
	var d dresser
	l := right(15, 300)
	for i, u := range l {
		got, e := term.Nameless(d.dress(u, free), free)
		is(t, "Nameless "+shown(u), got, u, e, api.OK)
		named, e := term.Name(u, free)
		is(t, "Name", undress(named, free), u, e, api.OK)
		// Names that are given twice, if the inner one hides one that nobody uses, do not matter.
		w := l[(i*7)%len(l)]
		made, e := term.Subst(u, 0, w)
		again, f := term.Subst(got, 0, undress(d.dress(w, free), free))
		is(t, "Subst", made, again, e, f)
	}
}

// P4.6: Shift by n and back changes nothing.
func TestShiftBack(t *testing.T) {
	r := seeded(16)
	there := 0
	for _, u := range right(17, 300) {
		for range 5 {
			by, from := r.IntN(121)-60, r.IntN(61)
			made, e := term.Shift(u, by, from)
			if e == api.ErrNot {
				continue
			}
			there++
			back, e := term.Shift(made, -by, from)
			is(t, "back", back, u, e, api.OK)
		}
	}
	if there < 300 {
		t.Error(there)
	}
}

// P4.6: substitutions of two variables can be done in either order.
func TestSubstOrder(t *testing.T) {
	r := seeded(18)
	there := 0
	for range 2000 {
		u, a, b := some(r, 4, 30), some(r, 3, 10), some(r, 3, 10)
		// The variable m is counted where n is not there any more.
		n, m := r.IntN(4), r.IntN(3)
		first, e := term.Subst(u, n, a)
		first, f := term.Subst(first, m, b)
		// The other way: m has the number that it has in front of u, and n the one that it has without it; in a, b stands for m.
		other := m
		if m >= n {
			other = m + 1
		}
		left := n
		if other < n {
			left = n - 1
		}
		room, g := term.Shift(b, 1, left)
		second, h := term.Subst(u, other, room)
		inner, i := term.Subst(a, m, b)
		second, j := term.Subst(second, left, inner)
		if slices.Contains([]api.Errno{e, f, g, h, i, j}, api.ErrLong) {
			continue
		}
		there++
		is(t, shown(u)+" "+shown(a)+" "+shown(b), second, first, max(e, f), max(g, h, i, j))
	}
	if there < 500 {
		t.Error(there)
	}
}

// P4.6: Free of Subst are those of t without n, and those of u if n was free.
func TestFreeOfSubst(t *testing.T) {
	r := seeded(19)
	l := right(20, 300)
	for _, u := range l {
		w, n := l[r.IntN(len(l))], r.IntN(5)
		made, e := term.Subst(u, n, w)
		if e != api.OK {
			continue
		}
		inU, _ := term.Free(u)
		inW, _ := term.Free(w)
		var want []int
		for _, k := range inU {
			switch {
			case k < n:
				want = append(want, k)
			case k > n:
				want = append(want, k-1)
			default:
				want = append(want, inW...)
			}
		}
		slices.Sort(want)
		got, e := term.Free(made)
		is(t, shown(u), got, slices.Compact(want), e, api.OK)
	}
}

// P4.6: Decode of Encode is the term, and unlike terms have unlike bytes.
func TestUnlikeBytes(t *testing.T) {
	met := map[string]api.Term{}
	l := right(21, 1000)
	for _, u := range l {
		b, e := term.Encode(u)
		back, _, f := term.Decode(b)
		is(t, "Decode", back, u, e, f)
		if other, is := met[string(b)]; is && !same(other, u) {
			t.Error(shown(u), shown(other))
		}
		met[string(b)] = u
	}
	if len(met) < len(l)/2 {
		t.Error(len(met))
	}
}

// P4.6: Put of what At returns changes nothing, if that has not too many variables to be a right term.
func TestPutOfAt(t *testing.T) {
	for _, u := range right(22, 100) {
		l, parts := paths(u)
		for i, path := range l {
			part, e := term.At(u, path)
			made, f := term.Put(u, path, part)
			if want := plainCheck(parts[i], 60, 8); want != api.OK {
				is(t, "too many", made, api.Term{}, max(e, f), want)
				continue
			}
			is(t, "Put", made, u, e, f)
		}
	}
}
