package trie_test

import (
	"bytes"
	"encoding/binary"
	"slices"
	"strings"
	"testing"

	"hoarstone/api"
	"hoarstone/trie"
)

// framed returns bytes that tell so many names, and parts behind them.
func framed(many int, parts ...string) []byte {
	return append(binary.BigEndian.AppendUint16(nil, uint16(many)), strings.Join(parts, "")...)
}

// named returns the bytes of a name and its digest.
func named(name string) string {
	x := of(name)
	return string([]byte{byte(len(name))}) + name + string(x[:])
}

// P3.5: the bytes of maps, by hand and for maps of all kinds, and what is read of them.
func TestEncode(t *testing.T) {
	for i, x := range []struct {
		p    plain
		want []byte
	}{
		{words(), []byte{0, 0}}, {words(""), framed(1, named(""))}, {words("b", "", "ab"), framed(3, named(""), named("ab"), named("b"))}, {words("\xff", "é", "a"), framed(3, named("a"), named("é"), named("\xff"))},
	} {
		if b := trie.Encode(from(t, x.p)); !bytes.Equal(b, x.want) {
			t.Error(i, b)
		}
	}
	if b := trie.Encode(from(t, words(many(0, trie.MaxNames)...))); b[0] != 2 || b[1] != 88 || len(b) != 2+trie.MaxNames*36 {
		t.Error(b[:2], len(b))
	}
	for _, p := range shapes() {
		m, at, e := trie.Decode(p.bytes())
		if at != 0 || e != api.OK {
			t.Error(at, e)
		}
		holds(t, m, p)
	}
}

// P3.5: what is wrong in bytes, and where, from the beginning on.
func TestDecodeErrors(t *testing.T) {
	a, b := named("a"), named("b")
	for i, x := range []struct {
		b  []byte
		at int
		e  api.Errno
	}{
		{nil, 0, api.ErrForm}, {[]byte{0}, 1, api.ErrForm}, {[]byte{255}, 1, api.ErrForm}, {[]byte{0, 0}, 0, api.OK}, {[]byte{0, 0, 7}, 2, api.ErrForm}, {[]byte{0, 1}, 2, api.ErrForm},
		{framed(trie.MaxNames), 2, api.ErrForm}, {framed(trie.MaxNames + 1), 0, api.ErrFull}, {framed(65535, a), 0, api.ErrFull},
		{framed(1, a), 0, api.OK}, {framed(1, a[:len(a)-1]), 35, api.ErrForm}, {framed(1, a[:1]), 3, api.ErrForm}, {framed(1, a, "x"), 36, api.ErrForm}, {framed(1, a, b), 36, api.ErrForm}, {framed(2, a), 36, api.ErrForm},
		{framed(1, named(long)), 2, api.ErrLong}, {framed(1, "\x3d"), 2, api.ErrLong}, {framed(1, "\xff"), 2, api.ErrLong}, {framed(2, a, "\x3d"), 36, api.ErrLong}, {framed(1, named(long[1:])), 0, api.OK}, {framed(1, "\x3c"), 3, api.ErrForm},
		{framed(2, a, b), 0, api.OK}, {framed(2, b, a), 37, api.ErrOrder}, {framed(2, a, a), 37, api.ErrOrder}, {framed(2, a, named("")), 37, api.ErrOrder}, {framed(2, named(""), named("")), 36, api.ErrOrder}, {framed(2, named("ab"), a), 38, api.ErrOrder}, {framed(2, a, named("ab")), 0, api.OK}, {framed(2, named("\xff"), named("a")), 37, api.ErrOrder},
		{framed(2, b, a, "more"), 37, api.ErrOrder}, {framed(3, b, a), 37, api.ErrOrder}, {framed(3, b, a, "\x3d"), 37, api.ErrOrder}, {framed(2, b, a[:33]), 69, api.ErrForm}, {framed(3, a, b, a), 71, api.ErrOrder},
	} {
		m, at, e := trie.Decode(x.b)
		if at != x.at || e != x.e || e != api.OK && !isEmpty(m) {
			t.Error(i, at, e)
		}
	}
}

// read is a reader that cuts what it has read off its bytes: it returns the map, or what is wrong, and how many bytes were not read then.
func read(b []byte) (plain, int, api.Errno) {
	if len(b) < 2 {
		return nil, 0, api.ErrForm
	}
	n := binary.BigEndian.Uint16(b)
	if n > trie.MaxNames {
		return nil, len(b), api.ErrFull
	}
	p, last := plain{}, ""
	for b = b[2:]; n > 0; n-- {
		if len(b) == 0 {
			return nil, 0, api.ErrForm
		}
		if b[0] > trie.MaxKey {
			return nil, len(b), api.ErrLong
		}
		rest := b[1:]
		if len(rest) < int(b[0])+32 {
			return nil, 0, api.ErrForm
		}
		name, sum := string(rest[:b[0]]), rest[b[0]:b[0]+32]
		if strings.Compare(last, name) >= 0 && len(p) > 0 {
			return nil, len(rest), api.ErrOrder
		}
		p[name], last = api.Sum(sum), name
		b = rest[len(name)+32:]
	}
	if len(b) > 0 {
		return nil, len(b), api.ErrForm
	}
	return p, 0, api.OK
}

// P3.5: bytes that are cut off anywhere, or have one changed, more, or less.
func TestDecodeOtherBytes(t *testing.T) {
	r := seeded(7)
	for range 60 {
		p := some(r, 5)
		b := p.bytes()
		for n := range b {
			if m, at, e := trie.Decode(b[:n]); !isEmpty(m) || at != n || e != api.ErrForm {
				t.Errorf("%q cut to %d: %d, %d", b, n, at, e)
			}
		}
		if _, at, e := trie.Decode(append(slices.Clone(b), byte(r.Uint32()))); at != len(b) || e != api.ErrForm {
			t.Errorf("%q and one more: %d, %d", b, at, e)
		}
		for i := range b {
			for _, c := range [][]byte{
				slices.Concat(b[:i], []byte{byte(r.Uint32())}, b[i+1:]), slices.Concat(b[:i], []byte{b[i] + 1}, b[i+1:]), slices.Concat(b[:i], []byte{b[i] - 1}, b[i+1:]),
				slices.Concat(b[:i], []byte{byte(r.Uint32())}, b[i:]), slices.Concat(b[:i], b[i+1:]),
			} {
				decodes(t, c)
			}
		}
	}
}

// decodes tells where Decode does not answer what read does.
func decodes(t *testing.T, b []byte) {
	t.Helper()
	want, left, f := read(b)
	m, at, e := trie.Decode(b)
	if e != f || e != api.OK && (!isEmpty(m) || at != len(b)-left) {
		t.Errorf("%q: %d, %d, not %d", b, at, e, f)
	}
	if e == api.OK {
		if at != 0 || !bytes.Equal(trie.Encode(m), b) {
			t.Errorf("%q: at %d", b, at)
		}
		holds(t, m, want)
	}
}
