package sum_test

import (
	"bytes"
	"crypto/sha256"
	"encoding"
	"encoding/binary"
	"math"
	"math/rand/v2"
	"slices"
	"strings"
	"testing"

	"hoarstone/api"
	"hoarstone/sum"
)

// some returns n bytes, other ones for another seed.
func some(n int, seed uint64) []byte {
	r := rand.New(rand.NewPCG(seed, 1))
	b := make([]byte, n)
	for i := range b {
		b[i] = byte(r.Uint32())
	}
	return b
}

// same reports whether two states are the same.
func same(a, b sum.State) bool {
	return a.Words == b.Words && bytes.Equal(a.Rest, b.Rest) && a.Long == b.Long
}

// isZero reports whether a state is zero.
func isZero(s sum.State) bool { return same(s, sum.State{}) }

// marshal writes a state as crypto/sha256 does.
func marshal(s sum.State) []byte {
	b := []byte("sha\x03")
	for _, w := range s.Words {
		b = binary.BigEndian.AppendUint32(b, w)
	}
	b = append(b, s.Rest...)
	b = append(b, make([]byte, 64-len(s.Rest))...)
	return binary.BigEndian.AppendUint64(b, uint64(s.Long))
}

// write is Write where no error is expected.
func write(t *testing.T, s sum.State, b []byte) sum.State {
	t.Helper()
	next, e := sum.Write(s, b)
	if e != api.OK {
		t.Fatal("Write", len(s.Rest), s.Long, len(b), e)
	}
	return next
}

// done is Done where no error is expected.
func done(t *testing.T, s sum.State) api.Sum {
	t.Helper()
	x, e := sum.Done(s)
	if e != api.OK {
		t.Fatal("Done", len(s.Rest), s.Long, e)
	}
	return x
}

// P1.1: the examples, and all lengths about whole blocks, against another implementation.
func TestOf(t *testing.T) {
	for text, want := range map[string]string{
		"":                         "e3b0c44298fc1c149afbf4c8996fb92427ae41e4649b934ca495991b7852b855",
		"abc":                      "ba7816bf8f01cfea414140de5dae2223b00361a396177a9cb410ff61f20015ad",
		"a":                        "ca978112ca1bbdcafac231b39a23dc4da786eff8147c4e72b9807785afee48bb",
		strings.Repeat("a", 1<<20): "9bc1b2a288b26af7257a36277ae3816a7d4f16e89c1e7e77d0a5c48bad62b360",
	} {
		if s := sum.Hex(sum.Of([]byte(text))); s != want {
			t.Errorf("%.10q: %s", text, s)
		}
	}
	if sum.Of(nil) != sum.Of([]byte{}) {
		t.Error("no bytes")
	}
	for n := range 400 {
		b := some(n, uint64(n))
		if sum.Of(b) != sha256.Sum256(b) {
			t.Error(n)
		}
	}
	for _, n := range []int{4095, 4096, 4097, 65535, 65536, 100000} {
		b := some(n, 7)
		if sum.Of(b) != sha256.Sum256(b) {
			t.Error(n)
		}
	}
}

// P1.1: the first state.
func TestNew(t *testing.T) {
	want := [8]uint32{0x6a09e667, 0xbb67ae85, 0x3c6ef372, 0xa54ff53a, 0x510e527f, 0x9b05688c, 0x1f83d9ab, 0x5be0cd19}
	if s := sum.New(); s.Words != want || len(s.Rest) != 0 || s.Long != 0 {
		t.Error(s)
	}
}

// P1.1: a block is taken as soon as it is whole, so that the state is that of crypto/sha256 behind each piece.
func TestWriteTakesBlocksAtOnce(t *testing.T) {
	for _, cuts := range [][]int{{0}, {1}, {63}, {64}, {65}, {63, 1}, {63, 2}, {1, 63}, {1, 64}, {64, 64}, {100, 28}, {100, 29}, {3, 200, 0, 60, 1, 64}, {127, 1}, {128, 0}} {
		s, h, long := sum.New(), sha256.New(), 0
		for i, n := range cuts {
			b := some(n, uint64(i))
			s = write(t, s, b)
			h.Write(b)
			long += n
			want, err := h.(encoding.BinaryMarshaler).MarshalBinary()
			if err != nil || !bytes.Equal(marshal(s), want) || s.Long != long || len(s.Rest) != long%64 {
				t.Error(cuts, i, s, err)
			}
			if x := done(t, s); !bytes.Equal(x[:], h.Sum(nil)) {
				t.Error(cuts, i, x)
			}
		}
	}
	s := write(t, write(t, sum.New(), []byte("ab")), []byte("c"))
	if string(s.Rest) != "abc" || s.Long != 3 || s.Words != sum.New().Words || done(t, s) != sum.Of([]byte("abc")) {
		t.Error(s)
	}
}

// P1.1: Words are not looked at, and the length counts in full, up to MaxLong.
func TestLongStates(t *testing.T) {
	for _, long := range []int{0, 1, 55, 56, 63, 64, 1 << 29, 1<<29 + 57, 1 << 32, 1<<32 + 56, sum.MaxLong - 65, sum.MaxLong - 64, sum.MaxLong - 1, sum.MaxLong} {
		s := sum.State{Words: [8]uint32{1, math.MaxUint32, 3, 1 << 31, 5, 6, 0, 8}, Rest: some(long%64, 3), Long: long}
		h := sha256.New()
		if err := h.(encoding.BinaryUnmarshaler).UnmarshalBinary(marshal(s)); err != nil {
			t.Fatal(err)
		}
		if x := done(t, s); !bytes.Equal(x[:], h.Sum(nil)) {
			t.Error(long, x)
		}
		more := some(min(200, sum.MaxLong-long), 4)
		h.Write(more)
		if x := done(t, write(t, s, more)); !bytes.Equal(x[:], h.Sum(nil)) {
			t.Error(long, len(more), x)
		}
	}
}

// P1.1: the errors of Write and Done, in their order.
func TestStateErrors(t *testing.T) {
	for i, x := range []struct {
		long, rest, more int
		write, done      api.Errno
	}{
		{-1, 0, 0, api.ErrWrong, api.ErrWrong},
		{-1, 63, 0, api.ErrWrong, api.ErrWrong},
		{-64, 0, 0, api.ErrWrong, api.ErrWrong},
		{math.MinInt, 0, 1, api.ErrWrong, api.ErrWrong},
		{math.MaxInt, 63, 1, api.ErrWrong, api.ErrWrong},
		{0, 1, 0, api.ErrWrong, api.ErrWrong},
		{0, 64, 0, api.ErrWrong, api.ErrWrong},
		{1, 0, 0, api.ErrWrong, api.ErrWrong},
		{1, 2, 0, api.ErrWrong, api.ErrWrong},
		{63, 62, 0, api.ErrWrong, api.ErrWrong},
		{64, 64, 0, api.ErrWrong, api.ErrWrong},
		{65, 65, 0, api.ErrWrong, api.ErrWrong},
		{130, 2, 0, api.OK, api.OK},
		{sum.MaxLong, 0, 0, api.OK, api.OK},
		{sum.MaxLong, 0, 1, api.ErrLong, api.OK},
		{sum.MaxLong, 1, 1, api.ErrWrong, api.ErrWrong},
		{sum.MaxLong + 1, 1, 0, api.ErrWrong, api.ErrWrong},
		{sum.MaxLong + 64, 0, 1, api.ErrWrong, api.ErrWrong},
		{sum.MaxLong - 1, 63, 1, api.OK, api.OK},
		{sum.MaxLong - 1, 63, 2, api.ErrLong, api.OK},
		{sum.MaxLong - 128, 0, 128, api.OK, api.OK},
		{sum.MaxLong - 128, 0, 129, api.ErrLong, api.OK},
	} {
		s := sum.State{Words: [8]uint32{1, 2}, Rest: make([]byte, x.rest), Long: x.long}
		next, e := sum.Write(s, make([]byte, x.more))
		if e != x.write || e != api.OK && !isZero(next) || e == api.OK && (next.Long != x.long+x.more || len(next.Rest) != next.Long%64) {
			t.Error(i, next, e)
		}
		if d, e := sum.Done(s); e != x.done || (e != api.OK) != (d == api.Sum{}) {
			t.Error(i, d, e)
		}
	}
}

// P1.1, R4: neither the bytes nor the state is changed, and no Rest is shared.
func TestWriteMemory(t *testing.T) {
	for _, n := range []int{0, 1, 10, 63, 64, 70, 200} {
		for _, rest := range []int{0, 1, 40, 63} {
			b := some(n, 1)
			room := some(100, 2)
			s := sum.State{Words: sum.New().Words, Rest: room[:rest], Long: 64 + rest}
			first := write(t, s, b)
			second := write(t, s, b)
			kept := slices.Clone(second.Rest)
			d := done(t, s)
			for i := range first.Rest {
				first.Rest[i]++
			}
			if !bytes.Equal(b, some(n, 1)) || !bytes.Equal(room, some(100, 2)) || !bytes.Equal(second.Rest, kept) || done(t, s) != d {
				t.Error(n, rest, "what was given, or another result, was changed")
			}
			clear(b)
			clear(room)
			if !bytes.Equal(second.Rest, kept) {
				t.Error(n, rest, "the result is that of what was given")
			}
		}
	}
	s := write(t, sum.New(), []byte("one"))
	longer := write(t, s, []byte(" two"))
	other := write(t, s, []byte(" six"))
	if string(s.Rest) != "one" || string(longer.Rest) != "one two" || string(other.Rest) != "one six" {
		t.Error(s, longer, other)
	}
}

// P1.5: in pieces of whatever lengths, bytes have the digest that they have at once.
func TestPieces(t *testing.T) {
	r := rand.New(rand.NewPCG(5, 5))
	for range 300 {
		b := some(r.IntN(700), r.Uint64())
		s := sum.New()
		for rest := b; len(rest) > 0; {
			n := r.IntN(min(len(rest), 150) + 1)
			s = write(t, s, rest[:n])
			rest = rest[n:]
		}
		if done(t, s) != sum.Of(b) {
			t.Error(len(b))
		}
	}
}
