package knot_test

import (
	"bytes"
	"crypto/sha256"
	"math"
	"slices"
	"testing"

	"hoarstone/api"
	"hoarstone/knot"
	"hoarstone/term"
	"hoarstone/wire"
)

// bytesOf puts bytes and digests behind one another.
func bytesOf(l ...any) []byte {
	var b []byte
	for _, y := range l {
		switch y := y.(type) {
		case int:
			b = append(b, byte(y))
		case api.Sum:
			b = append(b, y[:]...)
		case []byte:
			b = append(b, y...)
		}
	}
	return b
}

// calling is the item of a Def as bytes.
func calling(s api.Sum) []byte { return bytesOf(64+api.Def, 0, 32, s) }

// P6.2: the parts in order.
func TestParts(t *testing.T) {
	for i, y := range []struct {
		l    []api.Term
		want [][]int
	}{
		{group(nat(1)), [][]int{{0}}}, {group(self(0)), [][]int{{0}}}, {group(even(1), odd(0)), [][]int{{0, 1}}}, {group(nat(1), plus(self(0), self(0))), [][]int{{0}, {1}}}, {group(plus(self(1), self(1)), nat(1)), [][]int{{1}, {0}}},
		{group(nat(0), nat(1), nat(2)), [][]int{{0}, {1}, {2}}}, {group(nat(0), nat(0), nat(0)), [][]int{{0}}}, {group(nat(1), plus(self(2), self(0)), nat(1)), [][]int{{0}, {1}}}, {group(plus(self(2), self(1)), nat(1), nat(1)), [][]int{{1}, {0}}},
		// One that calls another one waits; the least one of those that need not wait is next.
		{group(self(3), nat(1), self(0), nat(2)), [][]int{{1}, {3}, {0}, {2}}}, {group(self(1), self(2), self(3), nat(0)), [][]int{{3}, {2}, {1}, {0}}}, {group(plus(self(2), self(4)), nat(0), nat(1), nat(2), self(1)), [][]int{{1}, {2}, {3}, {4}, {0}}},
		// A part is taken when its least member's turn has come, though another of its members has a greater number than one of a part behind.
		{group(plus(self(3), self(3)), nat(0), nat(1), lam(self(0))), [][]int{{0, 3}, {1}, {2}}}, {group(plus(self(3), self(2)), nat(0), nat(1), lam(self(0))), [][]int{{1}, {2}, {0, 3}}}, {group(self(1), plus(self(3), self(2)), nat(1), lam(self(1))), [][]int{{2}, {1, 3}, {0}}},
		{group(nat(9), plus(self(4), self(5)), lam(self(6)), plus(self(5), self(3)), plus(self(1), self(1)), nat(8), lam(lam(self(2)))), [][]int{{0}, {2, 6}, {5}, {1, 4}, {3}}},
		// Who reaches himself alone is a part of his own; who is alike is of no part.
		{group(lam(app(self(1), v(0))), lam(app(self(0), v(0)))), [][]int{{0}}}, {group(lam(self(0)), lam(self(2)), lam(self(1)), plus(self(2), self(3))), [][]int{{0}, {3}}}, {group(self(1), self(2), self(3), self(4), self(5), self(6), self(7), lam(self(0))), [][]int{{0, 1, 2, 3, 4, 5, 6, 7}}},
		// Both lead to the same ones, but only one leads to itself through the other one.
		{group(plus(self(1), self(2)), lam(self(2)), lam(lam(self(1))), plus(self(2), self(1))), [][]int{{1, 2}, {0}, {3}}},
	} {
		got, e := knot.Parts(y.l)
		if !same(got, y.want) || e != api.OK {
			t.Errorf("%d: %v, %v, want %v", i, got, e, y.want)
		}
	}
	for _, l := range groups(7, 1500) {
		got, e := knot.Parts(l)
		is(t, "Parts of "+told(l), got, bondOf(l).parts(), e, api.OK)
	}
}

// P6.2: the members of a part by their numbers from the first one of a member on.
func TestOrder(t *testing.T) {
	three := group(plus(self(2), self(1)), lam(self(0)), lam(lam(self(0))))
	late := group(match(self(1), on(pany(), self(2)), on(pnat(3), self(3))), app(nat(1), self(0)), app(nat(2), self(0)), app(nat(3), self(0)), nat(0))
	cross := group(plus(self(4), self(2)), nat(1), lam(plus(self(3), self(0))), lam(lam(plus(self(1), self(2)))), nat(2))
	for i, y := range []struct {
		l    []api.Term
		of   int
		want []int
	}{
		{group(even(1), odd(0)), 0, []int{0, 1}}, {group(even(1), odd(0)), 1, []int{1, 0}}, {group(nat(1), plus(self(0), self(0))), 1, []int{1}},
		{three, 0, []int{0, 2, 1}}, {three, 1, []int{1, 0, 2}}, {three, 2, []int{2, 0, 1}}, {late, 0, []int{0, 1, 2, 3}}, {late, 3, []int{3, 0, 1, 2}}, {late, 4, []int{4}},
		{cross, 0, []int{0, 2, 3}}, {cross, 2, []int{2, 3, 0}}, {cross, 3, []int{3, 2, 0}}, {cross, 1, []int{1}},
		// Of copies the first one is told, and what the first one calls.
		{group(nat(3), nat(1), nat(1)), 2, []int{1}}, {group(lam(app(self(1), v(0))), lam(app(self(0), v(0)))), 1, []int{0}}, {group(even(1), odd(2), even(3), odd(0)), 3, []int{1, 0}}, {group(odd(3), nat(7), odd(3), even(2)), 2, []int{0, 3}}, {group(odd(3), nat(7), odd(3), even(2)), 3, []int{3, 0}},
	} {
		got, e := knot.Order(y.l, y.of)
		if !slices.Equal(got, y.want) || e != api.OK {
			t.Errorf("%d: %v, %v, want %v", i, got, e, y.want)
		}
	}
	for _, i := range []int{-1, 2, 8, math.MinInt, math.MaxInt} {
		got, e := knot.Order(group(even(1), odd(0)), i)
		is(t, "no member", got, nil, e, api.ErrNot)
	}
	got, e := knot.Order(group(v(0)), 5)
	is(t, "wrong", got, nil, e, api.ErrNot)
	got, e = knot.Order(group(nat(-1)), 5)
	is(t, "wrong", got, nil, e, api.ErrRange)
	for _, l := range groups(8, 500) {
		b := bondOf(l)
		for i := range l {
			got, e := knot.Order(l, i)
			is(t, "Order of "+told(l), got, b.numbers(b.firsts[i]), e, api.OK)
		}
	}
}

// P6.3: codes byte by byte.
func TestCodeBytes(t *testing.T) {
	one := bytesOf(168, 1, 1, 2, 1)
	loop := bytesOf(168, 1, 1, 131, 0, 1, 132, 0, 2, 7, 0, 1, 0)
	twice := bytesOf(168, 1, 1, 138, 1, 2, calling(sha256.Sum256(one)), calling(sha256.Sum256(one)))
	both := func(first, second int) []byte {
		half := func(zero, other int) []byte {
			return bytesOf(131, 0, 1, 137, 0, 3, 1, 0, 148, 0, 2, 32, 0, 2, zero, 148, 0, 2, 31, 0, 132, 0, 2, 7, other, 138, 2, 2, 1, 0, 2, 1)
		}
		return bytesOf(168, 2, 2, half(first, 1), half(second, 0))
	}
	for i, y := range []struct {
		l    []api.Term
		of   int
		want []byte
	}{
		{group(nat(1)), 0, one}, {group(lam(app(self(0), v(0)))), 0, loop}, {group(lam(app(self(1), v(0))), lam(app(self(0), v(0)))), 0, loop}, {group(lam(app(self(1), v(0))), lam(app(self(0), v(0)))), 1, loop},
		{group(nat(1), plus(self(0), self(0))), 0, one}, {group(nat(1), plus(self(0), self(0))), 1, twice}, {group(nat(1), plus(self(2), self(0)), nat(1)), 1, twice}, {group(plus(self(1), self(2)), nat(1), nat(1)), 0, twice}, {group(plus(self(1), self(2)), nat(1), nat(1)), 2, one},
		{group(even(1), odd(0)), 0, both(1, 0)}, {group(even(1), odd(0)), 1, both(0, 1)}, {group(odd(1), even(0)), 0, both(0, 1)}, {group(odd(1), even(0)), 1, both(1, 0)},
		{group(nat(5), odd(3), nat(5), even(1)), 3, both(1, 0)}, {group(con(x(3), 2, do(x(4), 1, def(x(5))))), 0, bytesOf(168, 1, 1, 64+128+8, 2, 32, x(3), 1, 64+128+11, 1, 32, x(4), 1, calling(x(5)))},
	} {
		got, e := knot.Code(y.l, y.of)
		if !bytes.Equal(got, y.want) || e != api.OK {
			t.Errorf("%d: %v, %v, want %v", i, got, e, y.want)
		}
		is(t, "digest", sums(t, y.l)[y.of], sha256.Sum256(y.want), api.OK, api.OK)
	}
}

// P6.3: codes and digests of all members, and what is opened, of made groups.
func TestCodes(t *testing.T) {
	for _, l := range groups(9, 1200) {
		codes, digests := plainCodes(l)
		for i := range l {
			got, e := knot.Code(l, i)
			is(t, "Code of "+told(l), got, codes[i], e, api.OK)
		}
		got, e := knot.Sums(l)
		is(t, "Sums of "+told(l), got, digests, e, api.OK)
		made, e := knot.Open(l)
		is(t, "Open of "+told(l), made, plainOpen(l, digests), e, api.OK)
	}
	even, odd := sums(t, group(even(1), odd(0)))[0], sums(t, group(even(1), odd(0)))[1]
	got, e := knot.Open(group(odd2(2, 1), parity(1, 0), odd2(0, 1)))
	is(t, "Open", got, group(opened(t, group(odd2(0, 1), parity(1, 0)))[0], lam(match(v(0), on(pnat(0), nat(1)), on(pany(), app(def(sums(t, group(odd2(0, 1), parity(1, 0)))[0]), prim(api.Minus, v(0), nat(1)))))), opened(t, group(odd2(0, 1), parity(1, 0)))[0]), e, api.OK)
	if even == odd {
		t.Error("even is odd")
	}
}

// odd2 is odd in another form, which calls itself, too.
func odd2(odd, even int) api.Term { return lam(let(self(odd), app(self(even), v(0)))) }

// P6.3: which members there are, and errors before that.
func TestCodeErrors(t *testing.T) {
	two := group(even(1), odd(0))
	for _, i := range []int{-1, 2, 7, 8, math.MinInt, math.MaxInt} {
		b, e := knot.Code(two, i)
		is(t, "Code", b, nil, e, api.ErrNot)
		for _, j := range []int{0, i} {
			yes, e := knot.Same(two, i, two, j)
			is(t, "Same", yes, false, e, api.ErrNot)
			yes, e = knot.Same(two, j, two, i)
			is(t, "Same", yes, false, e, api.ErrNot)
		}
	}
	for i, y := range []struct {
		a    []api.Term
		i    int
		b    []api.Term
		j    int
		want api.Errno
	}{
		{two, 0, two, 1, api.OK}, {nil, 0, two, 0, api.ErrMany}, {two, 0, nil, 0, api.ErrMany}, {group(nat(-1)), 9, group(v(0)), 9, api.ErrRange}, {group(v(0)), 9, group(nat(-1)), 9, api.ErrNot}, {two, 9, group(nat(-1)), 0, api.ErrRange}, {two, 2, group(nat(-1)), 0, api.ErrRange}, {two, 0, group(api.Term{Kind: api.Lam}), 3, api.ErrMany}, {times(9, nat(0)), 0, group(nat(-1)), 0, api.ErrMany},
	} {
		yes, e := knot.Same(y.a, y.i, y.b, y.j)
		if yes || e != y.want {
			t.Errorf("%d: %v, %v, want %v", i, yes, e, y.want)
		}
	}
}

// P6.3: whether members of two groups have the same code.
func TestSame(t *testing.T) {
	for i, y := range []struct {
		a    []api.Term
		i    int
		b    []api.Term
		j    int
		want bool
	}{
		{group(even(1), odd(0)), 0, group(odd(1), even(0)), 1, true}, {group(even(1), odd(0)), 0, group(odd(1), even(0)), 0, false}, {group(even(1), odd(0)), 1, group(nat(1), odd(2), even(1)), 1, true},
		{group(lam(app(self(1), v(0))), lam(app(self(0), v(0)))), 1, group(lam(app(self(0), v(0)))), 0, true}, {group(nat(1)), 0, group(nat(2), nat(1)), 1, true}, {group(nat(1)), 0, group(nat(2), nat(1)), 0, false},
		{group(nat(1), plus(self(0), self(0))), 1, group(plus(self(1), self(2)), nat(1), nat(1)), 0, true}, {group(nat(1), plus(self(0), self(0))), 1, group(plus(self(1), self(2)), nat(1), nat(2)), 0, false},
		{group(nat(1), plus(self(0), self(0))), 1, group(plus(def(sha256.Sum256(bytesOf(168, 1, 1, 2, 1))), def(sha256.Sum256(bytesOf(168, 1, 1, 2, 1))))), 0, true},
		{group(self(0)), 0, group(self(1), self(0)), 1, true},
	} {
		yes, e := knot.Same(y.a, y.i, y.b, y.j)
		if yes != y.want || e != api.OK {
			t.Errorf("%d: %v, %v", i, yes, e)
		}
	}
	all := groups(10, 60)
	var codes [][][]byte
	for _, l := range all {
		own, _ := plainCodes(l)
		codes = append(codes, own)
	}
	r := seeded(11)
	for range 2000 {
		a, b := r.IntN(len(all)), r.IntN(len(all))
		i, j := r.IntN(len(all[a])), r.IntN(len(all[b]))
		yes, e := knot.Same(all[a], i, all[b], j)
		is(t, "Same", yes, bytes.Equal(codes[a][i], codes[b][j]), e, api.OK)
	}
}

// weight returns how many bytes the code of the first one of members of one part has, however many they are.
func weight(l []api.Term) int {
	all := 0
	for _, t := range l {
		b, e := term.Encode(t)
		if e != api.OK {
			panic(e)
		}
		all += len(b)
	}
	// Before the members: the Kind, how many there are, and how many Kids.
	return 3 + all
}

// heavy returns a part of 7 members whose code has so many bytes.
func heavy(size int) []api.Term {
	l := ring(7, 300)
	var leaves []*api.Term
	var walk func(t *api.Term)
	walk = func(t *api.Term) {
		for i := range t.Kids {
			walk(&t.Kids[i])
		}
		if t.Kind == api.Def {
			leaves = append(leaves, t)
		}
	}
	for i := range l {
		l[i] = cut(l[i])
		walk(&l[i])
	}
	over := weight(l) - size
	// A Def has 35 bytes, a number has 2 to 6: each one of so many leaves is made 29 to 33 bytes shorter.
	for left := (over + 32) / 33; left > 0; left-- {
		less := (over + left - 1) / left
		*leaves[left] = nat(1 << (7 * (33 - less)))
		over -= less
	}
	return l
}

// P6.3: a code that is too long is an error for its part, and for those that come behind it.
func TestLongCodes(t *testing.T) {
	most, more := heavy(api.MaxBytes), heavy(api.MaxBytes+1)
	if weight(most) != api.MaxBytes || weight(more) != api.MaxBytes+1 {
		t.Fatal(weight(most), weight(more))
	}
	if weight(ring(6, 300)) > api.MaxBytes {
		t.Error("six members are too long")
	}
	got, e := knot.Code(most, 3)
	codes, digests := plainCodes(most)
	is(t, "most", got, codes[3], e, api.OK)
	all, e := knot.Sums(most)
	is(t, "most", all, digests, e, api.OK)
	if len(got) != api.MaxBytes {
		t.Error(len(got))
	}
	moved := func(l []api.Term, by int) []api.Term {
		var all []api.Term
		for _, u := range l {
			all = append(all, renumbered(u, func(n int) int { return n + by }))
		}
		return all
	}
	// A member before the part, one behind it that calls nobody of it, one behind it that does, and one that is called by it and so comes before it; at last a part of all members.
	last := true
	called := ring(7, 300)
	called[6] = replaced(called[6], func(u api.Term) api.Term {
		if u.Kind == api.Def && last {
			last = false
			return self(7)
		}
		return u
	})
	for i, y := range []struct {
		l    []api.Term
		errs []api.Errno
	}{
		{more, times(7, api.ErrLong)},
		{append(group(nat(5)), moved(more, 1)...), append([]api.Errno{api.OK}, times(7, api.ErrLong)...)},
		{append(slices.Clone(more), nat(5)), times(8, api.ErrLong)},
		{append(slices.Clone(more), lam(self(3))), times(8, api.ErrLong)},
		{append(slices.Clone(called), nat(5)), append(times(7, api.ErrLong), api.OK)},
		{ring(8, 300), times(8, api.ErrLong)},
		{append(group(lam(self(1))), moved(more, 1)...), times(8, api.ErrLong)},
	} {
		for of, want := range y.errs {
			b, e := knot.Code(y.l, of)
			if e != want || e != api.OK && len(b) > 0 {
				t.Errorf("%d: Code of %d: %v, want %v", i, of, e, want)
			}
			yes, e := knot.Same(y.l, of, y.l, of)
			is(t, "Same as itself", yes, want == api.OK, e, want)
			yes, e = knot.Same(y.l, of, group(nat(5)), 0)
			is(t, "Same", yes, want == api.OK, e, want)
			yes, e = knot.Same(group(nat(5)), 0, y.l, of)
			is(t, "Same", yes, want == api.OK, e, want)
		}
		s, e := knot.Sums(y.l)
		is(t, "Sums", s, nil, e, api.ErrLong)
		made, e := knot.Open(y.l)
		is(t, "Open", made, nil, e, api.ErrLong)
		// What does not need codes has no such error.
		parts, e := knot.Parts(y.l)
		is(t, "Parts", parts, bondOf(y.l).parts(), e, api.OK)
		order, e := knot.Order(y.l, 1)
		b := bondOf(y.l)
		is(t, "Order", order, b.numbers(b.firsts[1]), e, api.OK)
	}
	b, e := knot.Code(more, 7)
	is(t, "no member", b, nil, e, api.ErrNot)
	yes, e := knot.Same(more, 0, more, 7)
	is(t, "no member", yes, false, e, api.ErrNot)
	if _, e := wire.Encode(bondOf(more).codeItem(0, nil)); e != api.ErrLong {
		t.Error(e)
	}
}
