package term_test

import (
	"slices"
	"strconv"
	"testing"

	"hoarstone/api"
	"hoarstone/term"
	"hoarstone/wire"
)

// plainItem is Item without its errors, written down from the chapter's words.
func plainItem(t api.Term) api.Item {
	y := api.Item{Kind: t.Kind, Num: t.Num}
	if slices.Contains([]int{api.Def, api.Con, api.Do, api.Handle}, t.Kind) {
		y.Text = string(t.Ref[:])
	}
	for _, kid := range t.Kids {
		y.Kids = append(y.Kids, plainItem(kid))
	}
	for _, c := range t.Cases {
		y.Kids = append(y.Kids, api.Item{Kind: 20, Kids: []api.Item{plainPattern(c.Pat), plainItem(c.Body)}})
	}
	return y
}

// plainPattern returns the item of a pattern.
func plainPattern(p api.Pattern) api.Item {
	y := api.Item{Kind: 30 + p.Kind, Num: p.Num}
	if p.Kind == api.PCon {
		y.Text = string(p.Ref[:])
	}
	for _, kid := range p.Kids {
		y.Kids = append(y.Kids, plainPattern(kid))
	}
	return y
}

// P4.4: items and bytes of terms, by hand.
func TestItems(t *testing.T) {
	zeros := string(make([]byte, 32))
	one := x(1)
	for i, y := range []struct {
		t    api.Term
		text string
	}{
		{v(0), `1`}, {v(59), `1:59`}, {nat(1 << 30), `2:1073741824`}, {lam(app(v(0), v(1))), `3(4(1 1:1))`}, {self(7), `7:7`}, {prim(api.Less, nat(0), nat(1)), `10:5(2 2:1)`},
		{let(nat(1), v(0)), `5(2:1 1)`}, {match(nat(1)), `9(2:1)`}, {match(v(0), on(pany(), v(0)), on(pnat(5), v(1))), `9(1 20(31 1) 20(32:5 1:1))`},
	} {
		got, e := term.Item(y.t)
		text, f := wire.Print(got)
		if text != y.text || e != api.OK || f != api.OK {
			t.Error(i, text, e, f)
		}
	}
	for i, y := range []struct {
		t    api.Term
		want api.Item
	}{
		{def(api.Sum{}), api.Item{Kind: 6, Text: zeros}}, {def(one), api.Item{Kind: 6, Text: string(one[:])}}, {con(one, 7), api.Item{Kind: 8, Num: 7, Text: string(one[:])}},
		{do(one, 2, nat(0)), api.Item{Kind: 11, Num: 2, Text: string(one[:]), Kids: []api.Item{{Kind: 2}}}},
		{handle(one, nat(0), v(0)), api.Item{Kind: 12, Text: string(one[:]), Kids: []api.Item{{Kind: 2}, {Kind: 1}}}},
		{match(nat(0), on(pcon(one, 3, pany()), v(0))), api.Item{Kind: 9, Kids: []api.Item{{Kind: 2}, {Kind: 20, Kids: []api.Item{{Kind: 33, Num: 3, Text: string(one[:]), Kids: []api.Item{{Kind: 31}}}, {Kind: 1}}}}}},
	} {
		got, e := term.Item(y.t)
		is(t, "Item "+strconv.Itoa(i), got, y.want, e, api.OK)
	}
	for _, u := range right(11, 400) {
		got, e := term.Item(u)
		is(t, "Item "+shown(u), got, plainItem(u), e, api.OK)
		back, e := term.FromItem(got)
		is(t, "FromItem "+shown(u), back, u, e, api.OK)
		b, e := term.Encode(u)
		want, f := wire.Encode(plainItem(u))
		is(t, "Encode "+shown(u), b, want, e, f)
		back, at, e := term.Decode(b)
		is(t, "Decode "+shown(u), back, u, e, api.OK)
		if at != 0 {
			t.Error(at)
		}
	}
	for _, u := range []api.Term{sized(300), lams(59, nat(0)), match(nat(0), on(deepPattern(59), nat(0))), match(lams(58, nat(0)), times(8, on(pany(), lams(28, nat(0))))...)} {
		b, e := term.Encode(u)
		back, at, f := term.Decode(b)
		if e != api.OK || f != api.OK || at != 0 || !same(back, u) {
			t.Error(len(b), e, f, at)
		}
	}
	// Nothing but Matches, one in the Body of the other, has the items that are on the most levels.
	u := nat(0)
	for range 59 {
		u = match(nat(0), on(pany(), u))
	}
	b, e := term.Encode(u)
	back, _, f := term.Decode(b)
	is(t, "deep", back, u, e, f)
}

// unlike are items that are not those of right terms.
func unlike() []api.Item {
	r, s := x(1), x(2)
	ref := string(r[:])
	it := func(kind, num int, text string, kids ...api.Item) api.Item {
		return api.Item{Kind: kind, Num: num, Text: text, Kids: kids}
	}
	n, hole := it(2, 0, ""), it(31, 0, "")
	on := func(p, body api.Item) api.Item { return it(20, 0, "", p, body) }
	self := it(3, 0, "", n)
	self.Kids[0] = self
	return []api.Item{
		{}, it(0, 0, ""), it(13, 0, ""), it(20, 0, "", hole, n), it(31, 0, ""), it(32, 0, ""), it(33, 0, ref), it(63, 0, ""), it(64, 0, ""), it(-1, 0, ""),
		it(1, 60, ""), it(1, -1, ""), it(2, 1<<30+1, ""), it(2, -1, ""), it(2, 1<<41, ""), it(7, 8, ""), it(10, 0, "", n, n), it(10, 6, "", n, n), it(8, 8, ref), it(11, 8, ref, n),
		it(3, 1, "", n), it(4, 1, "", n, n), it(5, 1, "", n, n), it(6, 1, ref), it(9, 1, "", n), it(12, 1, ref, n, n),
		it(6, 0, ""), it(6, 0, ref[:31]), it(6, 0, ref+"a"), it(6, 0, ref+"\x00"), it(6, 0, ref+ref), it(8, 0, ""), it(11, 0, "", n), it(12, 0, "", n, n), it(12, 0, ref[:1], n, n),
		it(2, 0, ref), it(2, 0, "a"), it(2, 0, "\x00"), it(2, 0, string(make([]byte, 32))), it(1, 0, ref), it(3, 0, ref, n), it(4, 0, ref, n, n), it(5, 0, ref, n, n), it(7, 0, ref), it(9, 0, ref, n), it(10, 1, ref, n, n), it(9, 0, "\x00", n),
		it(3, 0, ""), it(3, 0, "", n, n), it(4, 0, "", n), it(1, 0, "", n), it(8, 0, ref, n, n, n, n, n), it(12, 0, ref, n), it(9, 0, ""), it(9, 0, "", n, n),
		it(3, 0, "", on(hole, n)), it(3, 0, "", n, on(hole, n)), it(9, 0, "", on(hole, n), n), it(9, 0, "", on(hole, n)), it(9, 0, "", n, on(hole, n), n), it(2, 0, "", on(hole, n)), it(8, 0, ref, on(hole, n)),
		it(9, 0, "", n, it(20, 1, "", hole, n)), it(9, 0, "", n, it(20, 0, "a", hole, n)), it(9, 0, "", n, it(20, 0, "", hole)), it(9, 0, "", n, it(20, 0, "")), it(9, 0, "", n, it(20, 0, "", hole, n, n)), it(9, 0, "", n, it(20, 0, "", n, hole)),
		it(9, 0, "", n, on(n, n)), it(9, 0, "", n, on(hole, hole)), it(9, 0, "", n, on(it(30, 0, ""), n)), it(9, 0, "", n, on(it(34, 0, ""), n)), it(9, 0, "", n, on(it(3, 0, ref), n)), it(9, 0, "", n, it(21, 0, "", hole, n)),
		it(9, 0, "", n, on(it(31, 1, ""), n)), it(9, 0, "", n, on(it(31, 0, ref), n)), it(9, 0, "", n, on(it(31, 0, "", hole), n)), it(9, 0, "", n, on(it(32, 1<<30+1, ""), n)), it(9, 0, "", n, on(it(32, 0, ref), n)), it(9, 0, "", n, on(it(32, 0, "\x00"), n)),
		it(9, 0, "", n, on(it(33, 0, ""), n)), it(9, 0, "", n, on(it(33, 0, ref[:31]), n)), it(9, 0, "", n, on(it(33, 0, ref+string(s[:])), n)), it(9, 0, "", n, on(it(33, 8, ref), n)), it(9, 0, "", n, on(it(33, 0, ref, n), n)), it(9, 0, "", n, on(it(33, 0, ref, hole, hole, hole, hole, hole), n)),
		it(9, 0, "", append([]api.Item{n}, times(9, on(hole, n))...)...), it(9, 0, "", n, on(hole, it(1, 61, ""))), it(3, 0, "", it(1, 61, "")), it(5, 0, "", n, it(1, 61, "")),
		self, it(8, 0, ref, n, self), plainItem(lams(60, nat(0))), plainItem(sized(301)), plainItem(sized(1000)), plainItem(lams(240, nat(0))), plainItem(lams(300, nat(0))),
	}
}

// P4.4: items that are not those of right terms, also if they are none at all.
func TestFromItem(t *testing.T) {
	for i, y := range unlike() {
		made, e := term.FromItem(y)
		is(t, "FromItem "+strconv.Itoa(i), made, api.Term{}, e, api.ErrForm)
		b, f := wire.Encode(y)
		if f != api.OK {
			continue
		}
		made, at, e := term.Decode(b)
		is(t, "Decode "+strconv.Itoa(i), made, api.Term{}, e, api.ErrForm)
		if at != 0 {
			t.Error(i, at)
		}
	}
}

// P4.4: bytes that are cut off, that have one more, or one that was changed: the error of wire.Decode and its index, or ErrForm and 0, or another term.
func TestDecode(t *testing.T) {
	asked := func(b []byte) {
		t.Helper()
		made, at, e := term.Decode(b)
		y, wantAt, want := wire.Decode(b)
		if want != api.OK {
			if at != wantAt {
				t.Errorf("%v: index %d, want %d", b, at, wantAt)
			}
			is(t, "Decode", made, api.Term{}, e, want)
			return
		}
		other, f := term.FromItem(y)
		if is(t, "Decode", made, other, e, f); at != 0 {
			t.Error(b, at)
		}
		if again, g := term.Encode(made); e == api.OK && (g != api.OK || !slices.Equal(again, b)) {
			t.Errorf("%v: read as %s, %v", b, shown(made), again)
		}
	}
	asked(nil)
	asked([]byte{3})
	asked(make([]byte, api.MaxBytes+1))
	for _, u := range right(12, 2) {
		b, e := term.Encode(u)
		if e != api.OK {
			t.Error(e)
		}
		for i := range b {
			asked(b[:i])
			if _, _, e := term.Decode(b[:i]); e != api.ErrForm {
				t.Error(i, e)
			}
			for _, by := range []byte{1, 2, 64, 128, 255} {
				changed := slices.Clone(b)
				changed[i] += by
				asked(changed)
			}
		}
		asked(append(b, 0))
		asked(append(b, b...))
	}
	for i, y := range []struct {
		b  []byte
		at int
		e  api.Errno
	}{{[]byte{3}, 1, api.ErrForm}, {[]byte{1, 128, 0}, 1, api.ErrForm}, {[]byte{1, 0, 7}, 2, api.ErrForm}, {[]byte{1, 60}, 0, api.ErrForm}, {[]byte{1, 59}, 0, api.OK}, {[]byte{0}, 0, api.ErrForm}, {make([]byte, 65537), 0, api.ErrLong}, {[]byte{2, 255, 255, 255, 255, 255, 255}, 1, api.ErrRange}} {
		if _, at, e := term.Decode(y.b); at != y.at || e != y.e {
			t.Error(i, at, e)
		}
	}
}
