package sum_test

import (
	"crypto/sha256"
	"math"
	"math/bits"
	"slices"
	"strconv"
	"strings"
	"testing"

	"hoarstone/api"
	"hoarstone/sum"
)

// lengths are 0 to 34, and powers of 2 with those beside them.
func lengths() []int {
	var l []int
	for n := range 35 {
		l = append(l, n)
	}
	return append(l, 63, 64, 65, 127, 128, 129, 255, 256, 257)
}

// numbered returns n digests.
func numbered(n int) []api.Sum {
	var l []api.Sum
	for i := range n {
		l = append(l, of(strconv.Itoa(i)))
	}
	return l
}

// hash returns the digest of parts, as crypto/sha256 has it.
func hash(first byte, parts ...api.Sum) api.Sum {
	b := []byte{first}
	for _, p := range parts {
		b = append(b, p[:]...)
	}
	return sha256.Sum256(b)
}

// below returns the greatest power of 2 below n.
func below(n int) int {
	m := 1
	for 2*m < n {
		m *= 2
	}
	return m
}

// naiveList follows the words of the chapter.
func naiveList(l []api.Sum) api.Sum {
	switch n := len(l); n {
	case 0:
		return hash(0)
	case 1:
		return hash(1, l[0])
	default:
		return hash(2, naiveList(l[:below(n)]), naiveList(l[below(n):]))
	}
}

// naiveWay follows the words of the chapter.
func naiveWay(l []api.Sum, i int) []api.Sum {
	if len(l) == 1 {
		return nil
	}
	m := below(len(l))
	if i < m {
		return append(naiveWay(l[:m], i), naiveList(l[m:]))
	}
	return append(naiveWay(l[m:], i-m), naiveList(l[:m]))
}

// grown returns the tree of a list.
func grown(t *testing.T, l []api.Sum) sum.Tree {
	t.Helper()
	var tree sum.Tree
	for _, x := range l {
		next, e := sum.Grow(tree, x)
		if e != api.OK {
			t.Fatal("Grow", tree.Many, e)
		}
		tree = next
	}
	return tree
}

// noTree reports whether a tree is zero.
func noTree(t sum.Tree) bool { return t.Many == 0 && len(t.Peaks) == 0 }

// P1.3: the digest of a list.
func TestList(t *testing.T) {
	for i, want := range []string{"6e340b9c", "877a5a70", "e3340421"} {
		l := []api.Sum{of("a"), of("b")}[:i]
		if s := sum.Hex(sum.List(l)); !strings.HasPrefix(s, want) {
			t.Error(i, s)
		}
	}
	if sum.List(nil) != sum.List([]api.Sum{}) {
		t.Error("an empty list")
	}
	for _, n := range lengths() {
		l := numbered(n)
		if sum.List(l) != naiveList(l) {
			t.Error(n)
		}
		if !slices.Equal(l, numbered(n)) {
			t.Error(n, "changed")
		}
	}
}

// P1.3, P1.5: a tree that was grown has the digest of its list; its peaks are the digests of its parts.
func TestGrow(t *testing.T) {
	for _, n := range lengths() {
		l := numbered(n)
		tree := grown(t, l)
		var peaks []api.Sum
		for rest := l; len(rest) > 0; {
			m := 1 << (bits.Len(uint(len(rest))) - 1)
			peaks = append(peaks, naiveList(rest[:m]))
			rest = rest[m:]
		}
		if tree.Many != n || !slices.Equal(tree.Peaks, peaks) {
			t.Error(n, tree)
		}
		if root, e := sum.Root(tree); root != sum.List(l) || e != api.OK {
			t.Error(n, root, e)
		}
	}
	if tree := grown(t, numbered(3)); len(tree.Peaks) != 2 {
		t.Error(tree)
	}
	// The longest list: all its peaks become one.
	most := sum.Tree{Many: sum.MaxMany - 1, Peaks: numbered(30)}
	want := hash(1, of("last"))
	for _, p := range slices.Backward(most.Peaks) {
		want = hash(2, p, want)
	}
	full, e := sum.Grow(most, of("last"))
	if e != api.OK || full.Many != sum.MaxMany || !slices.Equal(full.Peaks, []api.Sum{want}) {
		t.Error(full, e)
	}
	if root, e := sum.Root(full); root != want || e != api.OK {
		t.Error(root, e)
	}
}

// P1.3: the errors of Grow and Root, in their order.
func TestTreeErrors(t *testing.T) {
	for i, x := range []struct {
		many, peaks int
		grow, root  api.Errno
	}{
		{0, 0, api.OK, api.OK}, {5, 2, api.OK, api.OK}, {sum.MaxMany - 1, 30, api.OK, api.OK},
		{sum.MaxMany, 1, api.ErrFull, api.OK}, {sum.MaxMany, 0, api.ErrWrong, api.ErrWrong}, {sum.MaxMany, 2, api.ErrWrong, api.ErrWrong},
		{sum.MaxMany + 1, 2, api.ErrWrong, api.ErrWrong}, {2 * sum.MaxMany, 1, api.ErrWrong, api.ErrWrong},
		{-1, 0, api.ErrWrong, api.ErrWrong}, {-1, 64, api.ErrWrong, api.ErrWrong}, {math.MinInt, 1, api.ErrWrong, api.ErrWrong}, {math.MaxInt, 63, api.ErrWrong, api.ErrWrong},
		{0, 1, api.ErrWrong, api.ErrWrong}, {3, 1, api.ErrWrong, api.ErrWrong}, {3, 3, api.ErrWrong, api.ErrWrong}, {4, 2, api.ErrWrong, api.ErrWrong}, {7, 0, api.ErrWrong, api.ErrWrong},
	} {
		tree := sum.Tree{Many: x.many, Peaks: numbered(x.peaks)}
		next, e := sum.Grow(tree, of("x"))
		if e != x.grow || e != api.OK && !noTree(next) || e == api.OK && next.Many != x.many+1 {
			t.Error(i, next, e)
		}
		if root, e := sum.Root(tree); e != x.root || (e != api.OK) != (root == api.Sum{}) {
			t.Error(i, root, e)
		}
	}
}

// P1.3, R4: a tree that is grown twice is not changed, and gives two that share nothing.
func TestGrowMemory(t *testing.T) {
	for n := range 20 {
		tree := grown(t, numbered(n))
		peaks := slices.Grow(slices.Clone(tree.Peaks), 5)
		tree.Peaks = peaks
		room := slices.Clone(peaks[:cap(peaks)])
		a, _ := sum.Grow(tree, of("a"))
		b, _ := sum.Grow(tree, of("b"))
		clear(a.Peaks)
		if !slices.Equal(peaks[:cap(peaks)], room) {
			t.Error(n, "changed")
		}
		clear(peaks[:cap(peaks)])
		if root, _ := sum.Root(b); root != sum.List(append(numbered(n), of("b"))) {
			t.Error(n, "shared")
		}
	}
}

// P1.3, P1.5: ways are those of the chapter, and what is proved is accepted.
func TestProof(t *testing.T) {
	for _, n := range lengths() {
		l := numbered(n)
		root := sum.List(l)
		for i := range n {
			way, e := sum.Proof(l, i)
			if e != api.OK || !slices.Equal(way, naiveWay(l, i)) {
				t.Error(n, i, e)
			}
			if is, e := sum.Verify(root, n, i, l[i], way); !is || e != api.OK {
				t.Error(n, i, is, e)
			}
			clear(way)
		}
		if !slices.Equal(l, numbered(n)) {
			t.Error(n, "changed")
		}
		for _, i := range []int{-1, n, n + 1, math.MinInt, math.MaxInt} {
			if way, e := sum.Proof(l, i); e != api.ErrNot || len(way) != 0 {
				t.Error(n, i, way, e)
			}
		}
	}
	l := numbered(3)
	if way, _ := sum.Proof(l, 2); !slices.Equal(way, []api.Sum{sum.List(l[:2])}) {
		t.Error(way)
	}
	if way, _ := sum.Proof(l, 0); !slices.Equal(way, []api.Sum{sum.List(l[1:2]), sum.List(l[2:])}) {
		t.Error(way)
	}
	if way, e := sum.Proof(l[:1], 0); len(way) != 0 || e != api.OK {
		t.Error(way, e)
	}
	if way, e := sum.Proof(nil, 0); len(way) != 0 || e != api.ErrNot {
		t.Error(way, e)
	}
}

// P1.3, P1.5: nothing but what is at a place, with its way, is accepted for it.
func TestVerifyRefuses(t *testing.T) {
	for n := 1; n < 10; n++ {
		l := numbered(n)
		root := sum.List(l)
		for i := range n {
			way, _ := sum.Proof(l, i)
			refused := func(what string, root api.Sum, i int, x api.Sum, way []api.Sum) {
				if is, e := sum.Verify(root, n, i, x, way); is || e != api.OK && what != "place" {
					t.Error(n, i, what, is, e)
				}
			}
			for bit := range 256 {
				other, x := root, l[i]
				other[bit/8] ^= 1 << (bit % 8)
				x[bit/8] ^= 1 << (bit % 8)
				refused("root", other, i, l[i], way)
				refused("digest", root, i, x, way)
				for k := range way {
					way[k][bit/8] ^= 1 << (bit % 8)
					refused("way", root, i, l[i], way)
					way[k][bit/8] ^= 1 << (bit % 8)
				}
			}
			for k := range n {
				if k != i {
					refused("place", root, k, l[i], way)
				}
			}
			if len(way) > 1 {
				turned := slices.Clone(way)
				slices.Reverse(turned)
				refused("turned", root, i, l[i], turned)
			}
			if given, _ := sum.Proof(l, i); !slices.Equal(way, given) {
				t.Error(n, i, "changed")
			}
		}
	}
}

// P1.3: the errors of Verify, in their order, and the greatest list.
func TestVerifyErrors(t *testing.T) {
	for i, x := range []struct {
		many, i, way int
		e            api.Errno
	}{
		{0, 0, 0, api.ErrRange}, {0, -1, 3, api.ErrRange}, {-1, 0, 0, api.ErrRange}, {math.MinInt, 0, 0, api.ErrRange},
		{sum.MaxMany + 1, 0, 31, api.ErrRange}, {sum.MaxMany + 1, sum.MaxMany, 1, api.ErrRange}, {math.MaxInt, math.MaxInt, 0, api.ErrRange},
		{1, 1, 0, api.ErrNot}, {3, 3, 1, api.ErrNot}, {3, -1, 9, api.ErrNot}, {3, math.MinInt, 2, api.ErrNot}, {3, math.MaxInt, 2, api.ErrNot}, {sum.MaxMany, sum.MaxMany, 30, api.ErrNot},
		{1, 0, 0, api.OK}, {1, 0, 1, api.ErrMany}, {3, 0, 1, api.ErrMany}, {3, 0, 2, api.OK}, {3, 0, 3, api.ErrMany}, {3, 2, 0, api.ErrMany}, {3, 2, 1, api.OK}, {3, 2, 2, api.ErrMany},
		{4, 3, 1, api.ErrMany}, {4, 3, 2, api.OK}, {5, 4, 1, api.OK}, {5, 4, 3, api.ErrMany}, {5, 3, 3, api.OK},
		{sum.MaxMany, 0, 29, api.ErrMany}, {sum.MaxMany, 0, 30, api.OK}, {sum.MaxMany, sum.MaxMany - 1, 30, api.OK}, {sum.MaxMany, 12345, 31, api.ErrMany},
		{sum.MaxMany - 1, sum.MaxMany - 2, 29, api.OK}, {sum.MaxMany/2 + 1, sum.MaxMany / 2, 1, api.OK}, {sum.MaxMany/2 + 1, 0, 30, api.OK},
	} {
		if is, e := sum.Verify(of("no root"), x.many, x.i, of("x"), make([]api.Sum, x.way)); is || e != x.e {
			t.Error(i, is, e)
		}
	}
	// In the greatest list the way of a place turns at each bit of its number.
	for _, i := range []int{0, 1, 2, 12345, sum.MaxMany / 2, sum.MaxMany - 1} {
		way, root := numbered(30), hash(1, of("x"))
		for k, w := range way {
			if i>>k&1 == 0 {
				root = hash(2, root, w)
			} else {
				root = hash(2, w, root)
			}
		}
		if is, e := sum.Verify(root, sum.MaxMany, i, of("x"), way); !is || e != api.OK {
			t.Error(i, is, e)
		}
	}
}

// P1.5: lists that are not the same have unlike digests, also those that hold digests of lists.
func TestUnlikeLists(t *testing.T) {
	letters := []api.Sum{of("a"), of("b"), sum.List([]api.Sum{of("a")}), sum.List([]api.Sum{of("a"), of("b")}), sum.List(nil)}
	met := map[api.Sum]string{}
	var visit func(l []api.Sum, name string)
	visit = func(l []api.Sum, name string) {
		s := sum.List(l)
		if other, is := met[s]; is {
			t.Error(name, "is", other)
		}
		met[s] = name
		if len(l) == 5 {
			return
		}
		for i, x := range letters {
			visit(append(slices.Clone(l), x), name+strconv.Itoa(i))
		}
	}
	visit(nil, "")
}
