package wire_test

import (
	"bytes"
	"slices"
	"strings"
	"testing"

	"hoarstone/api"
	"hoarstone/sum"
	"hoarstone/wire"
)

// judge tells the first error of bytes, and its index: of one item, or of a stream. It reads with a list of how many items are still to come on each level.
func judge(b []byte, stream bool) (int, api.Errno) {
	if len(b) > 65536 {
		return 0, api.ErrLong
	}
	at := 0
	for first := true; first && !stream || stream && at < len(b); first = false {
		to, e := judgeItem(b, at)
		if e != api.OK {
			return to, e
		}
		at = to
	}
	if at < len(b) {
		return at, api.ErrForm
	}
	return 0, api.OK
}

// judgeItem tells where the item that begins at an index ends, or its error, and the index of it.
func judgeItem(b []byte, at int) (int, api.Errno) {
	left, begun := []int{1}, 0
	for len(left) > 0 {
		if left[len(left)-1] == 0 {
			left = left[:len(left)-1]
			continue
		}
		left[len(left)-1]--
		switch {
		case at == len(b):
			return at, api.ErrForm
		case len(left) > 250:
			return at, api.ErrLong
		case begun == 5000:
			return at, api.ErrMany
		case b[at]&63 == 0:
			return at, api.ErrForm
		}
		begun++
		head := b[at]
		at++
		_, to, e := judgeNumber(b, at, 0, 1<<40)
		if e == api.OK && head&64 != 0 {
			var long int
			long, to, e = judgeNumber(b, to, 1, 4096)
			if e == api.OK && to+long > len(b) {
				return len(b), api.ErrForm
			}
			if e == api.OK {
				to += long
			}
		}
		if e == api.OK && head&128 != 0 {
			var many int
			many, to, e = judgeNumber(b, to, 1, 5000)
			left = append(left, many)
		}
		if e != api.OK {
			return to, e
		}
		at = to
	}
	return at, api.OK
}

// judgeNumber returns the number that begins at an index, and where it ends, or its error, and the index of it.
func judgeNumber(b []byte, at, least, most int) (n, to int, e api.Errno) {
	for to = at; to < len(b) && b[to] >= 128; to++ {
	}
	switch {
	case to-at >= 6:
		return 0, at, api.ErrRange
	case to == len(b):
		return 0, to, api.ErrForm
	case to > at && b[to] == 0:
		return 0, at, api.ErrForm
	}
	for i := to; i >= at; i-- {
		n = n*128 + int(b[i]&127)
	}
	switch {
	case n > most:
		return 0, at, api.ErrRange
	case n < least:
		return 0, at, api.ErrForm
	}
	return n, to + 1, api.OK
}

// decodes asks whether Decode and Split tell of bytes what judge does, and read what has these bytes.
func decodes(t *testing.T, b []byte) {
	t.Helper()
	i, e := judge(b, false)
	if x, at, f := wire.Decode(b); at != i || f != e || e != api.OK && !isZero(x) || e == api.OK && !bytes.Equal(plainBytes(x), b) {
		t.Errorf("Decode %.40v: %d at %d instead of %d at %d: %.60s", b, f, at, e, i, plainText(x))
	}
	i, e = judge(b, true)
	l, at, f := wire.Split(b)
	var all []byte
	for _, x := range l {
		all = append(all, plainBytes(x)...)
	}
	if at != i || f != e || e != api.OK && len(l) > 0 || e == api.OK && !bytes.Equal(all, b) {
		t.Errorf("Split %.40v: %d at %d instead of %d at %d", b, f, at, e, i)
	}
}

// P2.2: the bytes of the examples.
func TestEncode(t *testing.T) {
	for _, x := range []struct {
		x    api.Item
		want []byte
	}{
		{leaf(3, 0), []byte{3, 0}},
		{api.Item{Kind: 3, Num: 300, Text: `a"`}, []byte{67, 172, 2, 2, 97, 34}},
		{node(leaf(2, 0), leaf(2, 5)), []byte{129, 0, 2, 2, 0, 2, 5}},
		{api.Item{Kind: 63, Num: 1, Text: "\x00", Kids: []api.Item{leaf(1, 0)}}, []byte{255, 1, 1, 0, 1, 1, 0}},
		{node(node(leaf(4, 0)), leaf(5, 0)), []byte{129, 0, 2, 129, 0, 1, 4, 0, 5, 0}},
		{api.Item{Kind: 1, Kids: []api.Item{}}, []byte{1, 0}},
	} {
		b := encode(t, x.x)
		if !bytes.Equal(b, x.want) {
			t.Error(plainText(x.x), b)
		}
		if y, i, e := wire.Decode(x.want); !same(y, x.x) || i != 0 || e != api.OK {
			t.Error(x.want, plainText(y), i, e)
		}
	}
}

// P2.2: numbers of one to six bytes, as Num, as the length of a Text, and as how many Kids there are.
func TestNumbers(t *testing.T) {
	for n, want := range map[int][]byte{
		0: {0}, 1: {1}, 127: {127}, 128: {128, 1}, 129: {129, 1}, 300: {172, 2}, 1<<14 - 1: {255, 127}, 1 << 14: {128, 128, 1},
		1<<21 - 1: {255, 255, 127}, 1 << 21: {128, 128, 128, 1}, 1<<28 - 1: {255, 255, 255, 127}, 1 << 28: {128, 128, 128, 128, 1},
		1<<35 - 1: {255, 255, 255, 255, 127}, 1 << 35: {128, 128, 128, 128, 128, 1}, 1<<40 - 1: {255, 255, 255, 255, 255, 31}, 1 << 40: {128, 128, 128, 128, 128, 32},
	} {
		b := append([]byte{3}, want...)
		if got := encode(t, leaf(3, n)); !bytes.Equal(got, b) {
			t.Error(n, got)
		}
		if x, i, e := wire.Decode(b); !same(x, leaf(3, n)) || i != 0 || e != api.OK {
			t.Error(n, plainText(x), i, e)
		}
	}
	for n, want := range map[int][]byte{1: {1}, 127: {127}, 128: {128, 1}, 4096: {128, 32}} {
		x := said(strings.Repeat("x", n))
		b := slices.Concat([]byte{65, 0}, want, []byte(x.Text))
		if got := encode(t, x); !bytes.Equal(got, b) {
			t.Error(n, got)
		}
		if y, i, e := wire.Decode(b); !same(y, x) || i != 0 || e != api.OK {
			t.Error(n, plainText(y), i, e)
		}
	}
	for n, want := range map[int][]byte{1: {1}, 127: {127}, 128: {128, 1}, 4999: {135, 39}} {
		x := wide(n, leaf(2, 0))
		b := slices.Concat([]byte{129, 0}, want, bytes.Repeat([]byte{2, 0}, n))
		if got := encode(t, x); !bytes.Equal(got, b) {
			t.Error(n, got)
		}
		if y, i, e := wire.Decode(b); !same(y, x) || i != 0 || e != api.OK {
			t.Error(n, plainText(y), i, e)
		}
	}
}

// P2.2: each error of bytes, in their order, with its index.
func TestDecodeErrors(t *testing.T) {
	chain := bytes.Repeat([]byte{129, 0, 1}, 250) // 250 levels, the last one with a Kid
	many := append([]byte{129, 0, 136, 39}, bytes.Repeat([]byte{2, 0}, 4999)...)
	corner := slices.Concat([]byte{129, 0, 143, 37}, bytes.Repeat([]byte{2, 0}, 4750), chain[:249*3]) // the 5001st item is on level 251
	text := append([]byte{65, 0, 128, 32}, make([]byte, 4096)...)
	for i, x := range []struct {
		b  []byte
		at int
		e  api.Errno
	}{
		{nil, 0, api.ErrForm},
		{[]byte{3}, 1, api.ErrForm},
		{[]byte{3, 128, 0}, 1, api.ErrForm},
		{[]byte{3, 0, 7}, 2, api.ErrForm},
		{[]byte{3, 0, 3, 0}, 2, api.ErrForm},
		{[]byte{0}, 0, api.ErrForm},
		{[]byte{0, 0}, 0, api.ErrForm},
		{[]byte{64, 0, 1, 1}, 0, api.ErrForm},
		{[]byte{128, 0, 1, 1, 0}, 0, api.ErrForm},
		{[]byte{129, 0, 2, 1, 0, 0, 0}, 5, api.ErrForm},
		{[]byte{67, 0, 0}, 2, api.ErrForm},
		{[]byte{67, 0, 0, 5}, 2, api.ErrForm},
		{[]byte{67, 0}, 2, api.ErrForm},
		{[]byte{67, 0, 1}, 3, api.ErrForm},
		{[]byte{67, 0, 3, 1, 1}, 5, api.ErrForm},
		{[]byte{129, 0, 1}, 3, api.ErrForm},
		{[]byte{129, 0, 0}, 2, api.ErrForm},
		{[]byte{129, 0}, 2, api.ErrForm},
		{[]byte{129, 0, 2, 1, 0}, 5, api.ErrForm},
		// Numbers that end with the bytes, are too long, not the shortest, or too great.
		{[]byte{3, 128}, 2, api.ErrForm},
		{[]byte{3, 128, 128, 128, 128, 128}, 6, api.ErrForm},
		{[]byte{3, 128, 128, 128, 128, 128, 128}, 1, api.ErrRange},
		{[]byte{3, 128, 128, 128, 128, 128, 128, 0}, 1, api.ErrRange},
		{[]byte{3, 255, 255, 255, 255, 255, 255, 255, 1}, 1, api.ErrRange},
		{[]byte{3, 255, 255, 255, 255, 255, 0}, 1, api.ErrForm},
		{[]byte{3, 255, 0}, 1, api.ErrForm},
		{[]byte{3, 128, 128, 128, 128, 128, 32}, 0, api.OK},
		{[]byte{3, 129, 128, 128, 128, 128, 32}, 1, api.ErrRange},
		{[]byte{3, 128, 128, 128, 128, 128, 33}, 1, api.ErrRange},
		{[]byte{3, 128, 128, 128, 128, 128, 127}, 1, api.ErrRange},
		{[]byte{3, 255, 255, 255, 255, 255, 127, 9}, 1, api.ErrRange},
		{[]byte{65, 1, 129, 32}, 2, api.ErrRange},
		{[]byte{65, 128, 1, 129, 32}, 3, api.ErrRange},
		{[]byte{65, 0, 128, 0}, 2, api.ErrForm},
		{[]byte{65, 0, 128, 32}, 4, api.ErrForm},
		{[]byte{129, 0, 137, 39}, 2, api.ErrRange},
		{[]byte{129, 0, 136, 39}, 4, api.ErrForm},
		{[]byte{129, 0, 129, 0}, 2, api.ErrForm},
		{[]byte{193, 0, 1, 7, 0}, 4, api.ErrForm},
		{[]byte{193, 0, 1, 7, 1, 2, 128}, 7, api.ErrForm},
		// The first one that is met decides.
		{[]byte{129, 0, 2, 3, 128, 0, 0}, 4, api.ErrForm},
		{[]byte{129, 0, 0, 0}, 2, api.ErrForm},
		{[]byte{67, 128, 0, 0}, 1, api.ErrForm},
		// Levels, and how many items there are.
		{slices.Concat(chain[:249*3], []byte{1, 0}), 0, api.OK},
		{slices.Concat(chain, []byte{1, 0}), 750, api.ErrLong},
		{slices.Concat(chain, []byte{0}), 750, api.ErrLong},
		{chain, 750, api.ErrForm},
		{append([]byte{129, 0, 135, 39}, many[4:]...), 0, api.OK},
		{append(slices.Clone(many), 1, 0), 10002, api.ErrMany},
		{append(slices.Clone(many), 0), 10002, api.ErrMany},
		{many, 10002, api.ErrForm},
		{append(slices.Clone(corner), 0), len(corner), api.ErrLong},
		{corner, len(corner), api.ErrForm},
		{text, 0, api.OK},
		{text[:4099], 4099, api.ErrForm},
		{append(slices.Clone(text), 0), 4100, api.ErrForm},
	} {
		y, at, e := wire.Decode(x.b)
		if at != x.at || e != x.e || e != api.OK && !isZero(y) || e == api.OK && !bytes.Equal(plainBytes(y), x.b) {
			t.Errorf("%d: %.20v: %d at %d: %.40s", i, x.b, e, at, plainText(y))
		}
		if want, f := judge(x.b, false); want != x.at || f != x.e {
			t.Error("judge", i, want, f)
		}
	}
}

// P2.2, P2.3: all short bytes, of a few that matter, and bytes of items with some changed, cut off, left out or put in, against another reader.
func TestReadBytes(t *testing.T) {
	signs := []byte{0, 1, 2, 63, 64, 65, 128, 129, 193, 255}
	var all func(b []byte)
	all = func(b []byte) {
		decodes(t, b)
		if len(b) < 5 {
			for _, s := range signs {
				all(append(b[:len(b):len(b)], s))
			}
		}
	}
	all(nil)
	r := seeded(2)
	for range 3000 {
		var b []byte
		for range r.IntN(3) {
			b = append(b, plainBytes(some(r))...)
		}
		for range r.IntN(3) {
			i := r.IntN(len(b) + 1)
			j := min(len(b), i+r.IntN(3))
			b = slices.Concat(b[:i], signs[:r.IntN(2)*r.IntN(10)], b[j:])
		}
		decodes(t, b)
		if len(b) > 0 {
			b[r.IntN(len(b))] = byte(r.Uint32())
			decodes(t, b)
		}
	}
}

// P2.2: bytes that are cut off anywhere are wrong at their end.
func TestCutBytes(t *testing.T) {
	r := seeded(3)
	for range 200 {
		b := plainBytes(some(r))
		for n := range b {
			if x, at, e := wire.Decode(b[:n]); !isZero(x) || at != n || e != api.ErrForm {
				t.Error(b[:n], plainText(x), at, e)
			}
		}
	}
}

// filled returns an item with exactly so many bytes, at least 1000.
func filled(n int) api.Item {
	x := node()
	for left := n - 3; left > 0; {
		long := min(left, 4100)
		if left > long && left < long+200 { // too few would be left for a Text whose length has two bytes
			long = 2000
		}
		x.Kids = append(x.Kids, said(strings.Repeat("x", long-4)))
		left -= long
	}
	return x
}

// P2.2, P2.3: the greatest number of bytes, and one more.
func TestMaxBytes(t *testing.T) {
	full, over := filled(api.MaxBytes), filled(api.MaxBytes+1)
	b := encode(t, full)
	if len(b) != api.MaxBytes || !bytes.Equal(b, plainBytes(full)) {
		t.Error(len(b))
	}
	if x, i, e := wire.Decode(b); !same(x, full) || i != 0 || e != api.OK {
		t.Error(i, e)
	}
	if b, e := wire.Encode(over); len(b) > 0 || e != api.ErrLong || len(plainBytes(over)) != api.MaxBytes+1 {
		t.Error(len(b), e, len(plainBytes(over)))
	}
	if s, e := wire.Sum(over); s != (api.Sum{}) || e != api.ErrLong {
		t.Error(s, e)
	}
	if b, e := wire.Encode(wide(4999, said(strings.Repeat("x", 4096)))); len(b) > 0 || e != api.ErrLong {
		t.Error(len(b), e)
	}
	long := plainBytes(over)
	zeros := make([]byte, api.MaxBytes+1) // wrong at once, if it were read
	for i, b := range [][]byte{long, zeros, append(bytes.Clone(b), 0)} {
		if x, at, e := wire.Decode(b); !isZero(x) || at != 0 || e != api.ErrLong {
			t.Error(i, at, e)
		}
		if l, at, e := wire.Split(b); len(l) > 0 || at != 0 || e != api.ErrLong {
			t.Error(i, at, e)
		}
	}
	if x, at, e := wire.Decode(zeros[1:]); !isZero(x) || at != 0 || e != api.ErrForm {
		t.Error(at, e)
	}
	// Of a stream: together they may have as many, and no more.
	half := filled(api.MaxBytes / 2)
	joined, e := wire.Join([]api.Item{half, half})
	if len(joined) != api.MaxBytes || e != api.OK {
		t.Error(len(joined), e)
	}
	if l, at, e := wire.Split(joined); len(l) != 2 || !same(l[0], half) || !same(l[1], half) || at != 0 || e != api.OK {
		t.Error(len(l), at, e)
	}
	if b, e := wire.Join([]api.Item{half, filled(api.MaxBytes/2 + 1)}); len(b) > 0 || e != api.ErrLong {
		t.Error(len(b), e)
	}
	if b, e := wire.Join(slices.Repeat([]api.Item{leaf(1, 0)}, api.MaxBytes/2)); len(b) != api.MaxBytes || e != api.OK {
		t.Error(len(b), e)
	}
	if b, e := wire.Join(slices.Repeat([]api.Item{leaf(1, 0)}, api.MaxBytes/2+1)); len(b) > 0 || e != api.ErrLong {
		t.Error(len(b), e)
	}
}

// P2.3: streams, none of them too, and their errors with the index in the whole.
func TestStreams(t *testing.T) {
	b, e := wire.Join([]api.Item{leaf(3, 0), leaf(4, 9)})
	if !bytes.Equal(b, []byte{3, 0, 4, 9}) || e != api.OK {
		t.Error(b, e)
	}
	if l, i, e := wire.Split(b); len(l) != 2 || !same(l[0], leaf(3, 0)) || !same(l[1], leaf(4, 9)) || i != 0 || e != api.OK {
		t.Error(l, i, e)
	}
	if b, e := wire.Join(nil); len(b) > 0 || e != api.OK {
		t.Error(b, e)
	}
	if l, i, e := wire.Split(nil); len(l) > 0 || i != 0 || e != api.OK {
		t.Error(l, i, e)
	}
	for i, x := range []struct {
		b  []byte
		at int
		e  api.Errno
	}{
		{[]byte{3, 0, 4}, 3, api.ErrForm},
		{[]byte{3, 0, 0, 0}, 2, api.ErrForm},
		{[]byte{3, 0, 4, 128, 0}, 3, api.ErrForm},
		{[]byte{3, 0, 4, 128, 128, 128, 128, 128, 128, 0}, 3, api.ErrRange},
		{[]byte{3, 0, 65, 0, 2, 9}, 6, api.ErrForm},
		{[]byte{0}, 0, api.ErrForm},
	} {
		if l, at, e := wire.Split(x.b); len(l) > 0 || at != x.at || e != x.e {
			t.Error(i, l, at, e)
		}
	}
}

// P2.3: each item of a stream has items and levels of its own.
func TestStreamLimits(t *testing.T) {
	most, tall := wide(4999, leaf(2, 0)), deep(249, leaf(1, 0))
	list := []api.Item{most, tall, most, tall, leaf(1, 0)}
	b, e := wire.Join(list)
	if e != api.OK {
		t.Fatal(e)
	}
	if l, i, e := wire.Split(b); !slices.EqualFunc(l, list, same) || i != 0 || e != api.OK {
		t.Error(len(l), i, e)
	}
	front := plainBytes(leaf(9, 9))
	for i, x := range []struct {
		x  api.Item
		at int
		e  api.Errno
	}{{wide(5000, leaf(2, 0)), 2 + 4 + 2*4999, api.ErrMany}, {deep(250, leaf(1, 0)), 2 + 3*250, api.ErrLong}} {
		if l, at, e := wire.Split(append(front, plainBytes(x.x)...)); len(l) > 0 || at != x.at || e != x.e {
			t.Error(i, len(l), at, e)
		}
	}
}

// P2.5: the digest of an item is that of its bytes.
func TestSum(t *testing.T) {
	r := seeded(4)
	for range 50 {
		x := some(r)
		if s, e := wire.Sum(x); s != sum.Of(plainBytes(x)) || e != api.OK {
			t.Error(plainText(x), s, e)
		}
	}
}
