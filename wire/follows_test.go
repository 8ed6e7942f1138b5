package wire_test

import (
	"bytes"
	"slices"
	"testing"

	"hoarstone/api"
	"hoarstone/wire"
)

// P2.6: items are read as they were, from their bytes and from their texts, which are those that the chapter says.
func TestReadAsWritten(t *testing.T) {
	r := seeded(10)
	for range 1000 {
		x := some(r)
		b, s := encode(t, x), shown(t, x)
		if !bytes.Equal(b, plainBytes(x)) || s != plainText(x) {
			t.Error(s, b)
		}
		if y, i, e := wire.Decode(b); !same(x, y) || i != 0 || e != api.OK {
			t.Error(s, b, i, e)
		}
		if y := parse(t, s); !same(x, y) {
			t.Error(s)
		}
	}
	for _, x := range []api.Item{deep(249, leaf(63, 1<<40)), wide(4999, leaf(63, 127)), wide(2, wide(2498, leaf(9, 9)))} {
		if y, i, e := wire.Decode(encode(t, x)); !same(x, y) || i != 0 || e != api.OK {
			t.Error(count(x), i, e)
		}
		if y := parse(t, shown(t, x)); !same(x, y) {
			t.Error(count(x))
		}
	}
}

// P2.6: what is read is written as it was, whatever it is: what was not written otherwise is wrong.
func TestWrittenAsRead(t *testing.T) {
	r := seeded(11)
	read := 0
	for range 20000 {
		b := make([]byte, 2+r.IntN(10))
		for i := range b {
			b[i] = []byte{1, 2, 0, 65, 129, 130, 193, 128, 255, byte(r.Uint32())}[r.IntN(10)]
		}
		if x, _, e := wire.Decode(b); e == api.OK {
			read++
			if !bytes.Equal(encode(t, x), b) {
				t.Error(b)
			}
		}
		if l, _, e := wire.Split(b); e == api.OK {
			if c, f := wire.Join(l); !bytes.Equal(c, b) || f != api.OK {
				t.Error(b, f)
			}
		}
		s := make([]byte, 1+r.IntN(8))
		for i := range s {
			s[i] = "1122:\"\"\\01a7f() "[r.IntN(16)]
		}
		if x, _, e := wire.Parse(string(s)); e == api.OK {
			read++
			if shown(t, x) != string(s) {
				t.Error(string(s))
			}
		}
	}
	if read < 100 {
		t.Error("hardly any were read:", read)
	}
}

// P2.6: no two items have the same bytes, or the same text; no bytes are a beginning of others, so that streams are cut in one way.
func TestNoBeginnings(t *testing.T) {
	r := seeded(12)
	var l []api.Item
	for range 150 {
		x := some(r)
		l = append(l, x, like(r, x))
	}
	for _, x := range l {
		b, s := encode(t, x), shown(t, x)
		for _, y := range l {
			c := encode(t, y)
			is, e := wire.Compare(x, y)
			if e != api.OK || (is == 0) != same(x, y) || bytes.Equal(b, c) != same(x, y) || (s == shown(t, y)) != same(x, y) || bytes.HasPrefix(b, c) != same(x, y) {
				t.Error(s, shown(t, y), is, e)
			}
		}
	}
	for range 200 {
		from := r.IntN(len(l))
		part := l[from : from+r.IntN(min(6, len(l)-from+1))]
		b, e := wire.Join(part)
		var all []byte
		for _, x := range part {
			all = append(all, plainBytes(x)...)
		}
		back, i, f := wire.Split(b)
		if e != api.OK || !bytes.Equal(b, all) || !slices.EqualFunc(part, back, same) || i != 0 || f != api.OK {
			t.Error(len(part), e, i, f)
		}
	}
}

// P2.6: Compare is an order.
func TestOrder(t *testing.T) {
	r := seeded(13)
	var l []api.Item
	for range 60 {
		x := some(r)
		l = append(l, x, like(r, x))
	}
	compare := func(x, y api.Item) int {
		c, e := wire.Compare(x, y)
		if e != api.OK {
			t.Error(e)
		}
		return c
	}
	for _, x := range l {
		for _, y := range l {
			c := compare(x, y)
			if c < -1 || c > 1 || (c == 0) != same(x, y) || compare(y, x) != -c {
				t.Error(plainText(x), plainText(y), c)
			}
			for _, z := range l {
				if c < 0 && compare(y, z) < 0 && compare(x, z) >= 0 {
					t.Error(plainText(x), plainText(y), plainText(z))
				}
			}
		}
	}
}

// P2.6: to put an item where it was changes nothing; what was put is found there.
func TestPutAndFind(t *testing.T) {
	r := seeded(14)
	for range 200 {
		x, y := some(r), some(r)
		for _, path := range paths(x) {
			here, e := wire.At(x, path)
			if !same(here, follow(x, path)) || e != api.OK {
				t.Error(plainText(x), path, e)
			}
			if z, e := wire.Put(x, path, here); !same(z, x) || e != api.OK {
				t.Error(plainText(x), path, plainText(z), e)
			}
			z, e := wire.Put(x, path, y)
			if e != api.OK {
				t.Fatal(e)
			}
			there, e := wire.At(z, path)
			if !same(there, y) || e != api.OK {
				t.Error(plainText(z), path, e)
			}
			found, e := wire.Find(z, y)
			if !slices.ContainsFunc(found, func(p []int) bool { return slices.Equal(p, path) }) || e != api.OK {
				t.Error(plainText(z), path, found, e)
			}
			back, e := wire.Put(z, path, here)
			if !same(back, x) || e != api.OK {
				t.Error(plainText(x), path, e)
			}
		}
	}
}
