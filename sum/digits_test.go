package sum_test

import (
	"encoding/hex"
	"math/rand/v2"
	"slices"
	"strings"
	"testing"

	"hoarstone/api"
	"hoarstone/sum"
)

// of returns the digest of a text.
func of(text string) api.Sum { return sum.Of([]byte(text)) }

// near returns digests that begin alike up to any digit, in any order, some of them more than once.
func near(r *rand.Rand, n int) []api.Sum {
	l := []api.Sum{of("near")}
	for len(l) < n {
		s := l[r.IntN(len(l))]
		s[r.IntN(32)] ^= byte(1 << r.IntN(8))
		l = append(l, s)
		if r.IntN(4) == 0 {
			l = append(l, l[r.IntN(len(l))])
		}
	}
	r.Shuffle(len(l), func(i, k int) { l[i], l[k] = l[k], l[i] })
	return l
}

// P1.2: digits, two for each byte, and back.
func TestHex(t *testing.T) {
	if s := sum.Hex(api.Sum{}); s != strings.Repeat("0", 64) {
		t.Error(s)
	}
	if s := sum.Hex(api.Sum{0: 0xa5, 1: 0xf0, 31: 0x0c}); s != "a5f0"+strings.Repeat("0", 58)+"0c" {
		t.Error(s)
	}
	for i := range 256 {
		s := api.Sum{byte(i), 9, byte(255 - i), 31: byte(i)}
		if sum.Hex(s) != hex.EncodeToString(s[:]) {
			t.Error(i, sum.Hex(s))
		}
		if back, e := sum.Unhex(sum.Hex(s)); back != s || e != api.OK {
			t.Error(i, back, e)
		}
	}
}

// P1.2: the errors of Unhex, in their order.
func TestUnhexErrors(t *testing.T) {
	zeros := strings.Repeat("0", 64)
	for i, x := range []struct {
		text string
		e    api.Errno
	}{
		{zeros, api.OK}, {"", api.ErrMany}, {"00", api.ErrMany}, {zeros[1:], api.ErrMany}, {zeros + "0", api.ErrMany},
		{"G", api.ErrMany}, {zeros + "G", api.ErrMany}, {"é" + zeros[1:], api.ErrMany}, {strings.Repeat("é", 64), api.ErrMany},
		{strings.Repeat("é", 32), api.ErrForm}, {"é" + zeros[2:], api.ErrForm}, {zeros[2:] + "é", api.ErrForm}, {zeros[1:] + "\xff", api.ErrForm}, {strings.Repeat("A", 64), api.ErrForm},
	} {
		if s, e := sum.Unhex(x.text); e != x.e || s != (api.Sum{}) {
			t.Error(i, s, e)
		}
	}
	for _, at := range []int{0, 1, 62, 63} {
		for c := range 256 {
			b := []byte(zeros)
			b[at] = byte(c)
			want := api.ErrForm
			if strings.IndexByte("0123456789abcdef", byte(c)) >= 0 {
				want = api.OK
			}
			if s, e := sum.Unhex(string(b)); e != want || e != api.OK && s != (api.Sum{}) {
				t.Error(at, c, e)
			}
		}
	}
}

// P1.2: the first byte that differs decides, as a number from 0 to 255.
func TestCompare(t *testing.T) {
	for i, x := range []struct {
		a, b api.Sum
		want int
	}{
		{api.Sum{}, api.Sum{}, 0}, {of("a"), of("a"), 0}, {api.Sum{1}, api.Sum{2}, -1}, {api.Sum{0: 127}, api.Sum{0: 128}, -1}, {api.Sum{255}, api.Sum{1, 5}, 1},
		{api.Sum{31: 1}, api.Sum{31: 2}, -1}, {api.Sum{31: 1}, api.Sum{30: 1}, -1}, {api.Sum{31: 200}, api.Sum{31: 100}, 1}, {api.Sum{5: 1, 6: 9}, api.Sum{5: 2}, -1},
	} {
		if n := sum.Compare(x.a, x.b); n != x.want {
			t.Error(i, n)
		}
		if n := sum.Compare(x.b, x.a); n != -x.want {
			t.Error(i, "turned", n)
		}
	}
}

// naiveShort follows the words of P1.4.
func naiveShort(l []api.Sum) []int {
	var many []int
	for _, s := range l {
		n := 1
		for slices.ContainsFunc(l, func(o api.Sum) bool { return o != s && sum.Hex(o)[:n] == sum.Hex(s)[:n] }) {
			n++
		}
		many = append(many, n)
	}
	return many
}

// P1.4: the least numbers of digits.
func TestShort(t *testing.T) {
	a, b, c, d := api.Sum{0x12, 0x34}, api.Sum{0x12, 0x35}, api.Sum{0x22}, api.Sum{0x12, 0x34, 31: 1}
	for i, x := range []struct {
		l    []api.Sum
		want []int
	}{
		{nil, nil}, {[]api.Sum{}, nil}, {[]api.Sum{a}, []int{1}}, {[]api.Sum{a, a, a}, []int{1, 1, 1}},
		{[]api.Sum{of("a"), of("b"), of("c")}, []int{1, 1, 1}},
		{[]api.Sum{a, b, c}, []int{4, 4, 1}}, {[]api.Sum{c, b, a, b}, []int{1, 4, 4, 4}},
		{[]api.Sum{d, c, a, b}, []int{64, 1, 64, 4}},
		{[]api.Sum{{0x10}, {0x1f}}, []int{2, 2}}, {[]api.Sum{{0x11, 0x10}, {0x11, 0x20}}, []int{3, 3}},
	} {
		if n := sum.Short(x.l); !slices.Equal(n, x.want) {
			t.Error(i, n)
		}
	}
	r := rand.New(rand.NewPCG(4, 4))
	for range 100 {
		l := near(r, 1+r.IntN(30))
		given := slices.Clone(l)
		if n := sum.Short(l); !slices.Equal(n, naiveShort(l)) || !slices.Equal(l, given) {
			t.Error(n, naiveShort(l))
		}
	}
}

// P1.4: the first digest that begins with some digits, and the errors of Find, in their order.
func TestFind(t *testing.T) {
	a, b, c := api.Sum{0x12, 0x34}, api.Sum{0x12, 0x35}, api.Sum{0x22}
	l := []api.Sum{c, a, b, a}
	zeros := strings.Repeat("0", 65)
	for i, x := range []struct {
		text string
		n    int
		e    api.Errno
	}{
		{"2", 0, api.OK}, {"1234", 1, api.OK}, {"1235", 2, api.OK}, {sum.Hex(a), 1, api.OK}, {sum.Hex(b), 2, api.OK},
		{"1", 0, api.ErrClash}, {"12", 0, api.ErrClash}, {"123", 0, api.ErrClash},
		{"f", 0, api.ErrNone}, {"21", 0, api.ErrNone}, {sum.Hex(a)[:63] + "1", 0, api.ErrNone}, {zeros[1:], 0, api.ErrNone},
		{"G", 0, api.ErrForm}, {"A", 0, api.ErrForm}, {"1G", 0, api.ErrForm}, {"2 ", 0, api.ErrForm}, {"12é", 0, api.ErrForm}, {"2\xff", 0, api.ErrForm}, {zeros[2:] + "g", 0, api.ErrForm},
		{"", 0, api.ErrMany}, {zeros, 0, api.ErrMany}, {zeros[1:] + "g", 0, api.ErrMany}, {sum.Hex(a) + "0", 0, api.ErrMany},
	} {
		if n, e := sum.Find(x.text, l); n != x.n || e != x.e {
			t.Error(i, x.text, n, e)
		}
	}
	if n, e := sum.Find("0", nil); n != 0 || e != api.ErrNone {
		t.Error(n, e)
	}
	if n, e := sum.Find("g", nil); n != 0 || e != api.ErrForm {
		t.Error(n, e)
	}
	letters := []api.Sum{of("a"), of("b"), of("c")}
	for text, want := range map[string]int{"c": 0, "3": 1, "2e7": 2} {
		if n, e := sum.Find(text, letters); n != want || e != api.OK {
			t.Error(text, n, e)
		}
	}
}

// P1.5: digits that Short says find their digest, and fewer of them find none, or more than one.
func TestShortFinds(t *testing.T) {
	r := rand.New(rand.NewPCG(9, 9))
	for range 50 {
		l := near(r, 1+r.IntN(40))
		for i, n := range sum.Short(l) {
			text := sum.Hex(l[i])
			for long := n; long <= 64; long++ {
				if found, e := sum.Find(text[:long], l); e != api.OK || found != slices.Index(l, l[i]) {
					t.Error(text[:long], found, e)
				}
			}
			for long := 1; long < n; long++ {
				if found, e := sum.Find(text[:long], l); e != api.ErrNone && e != api.ErrClash || found != 0 {
					t.Error(text[:long], found, e)
				}
			}
		}
	}
}
