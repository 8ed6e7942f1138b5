package wire_test

import (
	"math"
	"slices"
	"strings"
	"testing"

	"hoarstone/api"
	"hoarstone/wire"
)

// wrong are paths that lead to nothing in an item with two Kids, of which the second one has one Kid.
var wrong = [][]int{{-1}, {2}, {0, 0}, {1, 1}, {1, -1}, {1, 0, 0}, {2, 0}, {-1, 0}, {math.MaxInt}, {math.MinInt}, {1, math.MaxInt}, make([]int, 300)}

// P2.5: what a path leads to.
func TestAt(t *testing.T) {
	x := parse(t, `1(2 2:5(7"a"))`)
	for path, want := range map[string]string{"": `1(2 2:5(7"a"))`, "0": `2`, "1": `2:5(7"a")`, "1 0": `7"a"`} {
		if y, e := wire.At(x, steps(path)); plainText(y) != want || e != api.OK {
			t.Error(path, plainText(y), e)
		}
	}
	for _, path := range wrong {
		if y, e := wire.At(x, path); !isZero(y) || e != api.ErrNot {
			t.Error(path, y, e)
		}
	}
}

// steps returns the path that a text tells.
func steps(s string) []int {
	var path []int
	for _, f := range strings.Fields(s) {
		path = append(path, int(f[0]-'0'))
	}
	return path
}

// P2.5: an item in the place of another one.
func TestPut(t *testing.T) {
	x := parse(t, `1(2 2:5(7"a"))`)
	y := parse(t, `9(8 8)`)
	for path, want := range map[string]string{"": `9(8 8)`, "0": `1(9(8 8) 2:5(7"a"))`, "1": `1(2 9(8 8))`, "1 0": `1(2 2:5(9(8 8)))`} {
		if z, e := wire.Put(x, steps(path), y); plainText(z) != want || e != api.OK {
			t.Error(path, plainText(z), e)
		}
	}
	for _, path := range wrong {
		if z, e := wire.Put(x, path, y); !isZero(z) || e != api.ErrNot {
			t.Error(path, z, e)
		}
	}
}

// P2.5: what is made by Put must be right, if the path leads anywhere.
func TestPutTooMuch(t *testing.T) {
	one := leaf(1, 0)
	tall, most := deep(249, one), wide(4999, one)
	low := make([]int, 249)
	for i, x := range []struct {
		x    api.Item
		path []int
		y    api.Item
		e    api.Errno
	}{
		{tall, low, leaf(2, 0), api.OK},
		{tall, low, node(one), api.ErrLong},
		{tall, low, tall, api.ErrLong},
		{tall, low[:1], tall, api.ErrLong},
		{tall, nil, tall, api.OK},
		{node(one), low[:1], tall, api.ErrLong},
		{node(one), low[:1], tall.Kids[0], api.OK},
		{most, []int{4998}, leaf(2, 0), api.OK},
		{most, []int{0}, node(one), api.ErrMany},
		{most, []int{4998}, node(one), api.ErrMany},
		{most, []int{4998}, most, api.ErrMany},
		{node(most.Kids[:4998]...), []int{7}, node(one), api.OK},
		{most, []int{4999}, most, api.ErrNot},
		{tall, append(slices.Clone(low), 0), tall, api.ErrNot},
		{node(append([]api.Item{one}, most.Kids[:4998]...)...), []int{0}, tall, api.ErrLong},
	} {
		if z, e := wire.Put(x.x, x.path, x.y); e != x.e || e != api.OK && !isZero(z) {
			t.Error(i, count(z), e)
		}
	}
}

// P2.5: all paths of what is the same.
func TestFind(t *testing.T) {
	for _, x := range []struct {
		x, y string
		want [][]int
	}{
		{`1(2 2:5)`, `2:5`, [][]int{{1}}},
		{`1(2 2:5)`, `2`, [][]int{{0}}},
		{`1(2 2:5)`, `1(2 2:5)`, [][]int{{}}},
		{`1(2 2:5)`, `1`, nil},
		{`1(2 2:5)`, `1(2)`, nil},
		{`1(2 2:5)`, `2:133`, nil},
		{`1(2:133)`, `2:5`, nil},
		{`1(2:128 2:256)`, `2:256`, [][]int{{1}}},
		{`1`, `1`, [][]int{{}}},
		{`1(1 1(1) 2(1(1) 1"a" 1) 1:1)`, `1`, [][]int{{0}, {1, 0}, {2, 0, 0}, {2, 2}}},
		{`1(1 1(1) 2(1(1) 1"a" 1) 1:1)`, `1(1)`, [][]int{{1}, {2, 0}}},
		{`1(3(4(5)) 3(4(5)) 4(5))`, `4(5)`, [][]int{{0, 0}, {1, 0}, {2}}},
		{`1(2"a" 2"b" 2"ab" 2"a")`, `2"a"`, [][]int{{0}, {3}}},
		{`1(2(3 4) 2(3) 2(4 3) 2(3 4 5))`, `2(3 4)`, [][]int{{0}}},
		{`1(2(9(8)) 3 2(9))`, `3`, [][]int{{1}}},
	} {
		if l, e := wire.Find(parse(t, x.x), parse(t, x.y)); !slices.EqualFunc(l, x.want, slices.Equal) || e != api.OK {
			t.Error(x.x, x.y, l, e)
		}
	}
	r := seeded(7)
	for range 300 {
		x := some(r)
		all := paths(x)
		y := follow(x, all[r.IntN(len(all))])
		var want [][]int
		for _, p := range all {
			if same(follow(x, p), y) {
				want = append(want, p)
			}
		}
		if l, e := wire.Find(x, y); !slices.EqualFunc(l, want, slices.Equal) || e != api.OK {
			t.Error(plainText(x), plainText(y), l, e)
		}
	}
	one := leaf(1, 0)
	if l, e := wire.Find(wide(4999, one), one); len(l) != 4999 || !slices.Equal(l[4998], []int{4998}) || e != api.OK {
		t.Error(len(l), e)
	}
	if l, e := wire.Find(deep(249, one), one); len(l) != 1 || !slices.Equal(l[0], make([]int, 249)) || e != api.OK {
		t.Error(len(l), e)
	}
}

// P2.5: the first item in which two differ.
func TestApart(t *testing.T) {
	for _, x := range []struct {
		x, y string
		want []int
	}{
		{`1(2 2:5)`, `1(2 2:6)`, []int{1}},
		{`1(2 2:5)`, `1(2)`, nil},
		{`1(2)`, `1(2 2:5)`, nil},
		{`1`, `2`, nil},
		{`1`, `1:1`, nil},
		{`1`, `1"a"`, nil},
		{`1"a"`, `1"b"`, nil},
		{`1(2 3)`, `1(4 5)`, []int{0}},
		{`1(2(3 4(5)) 6)`, `1(2(3 4(7)) 8)`, []int{0, 1, 0}},
		{`1(2(3 4(5)) 6)`, `1(2(3 4) 8)`, []int{0, 1}},
		{`1(2(3 4(5)) 6)`, `1(2(3 4(5)) 6(1))`, []int{1}},
		{`1(2(3 4(5)) 6(7))`, `1(2(3 4(5)) 6(9))`, []int{1, 0}},
		{`1(2(3) 2(3))`, `1(2(3) 2(3:1))`, []int{1, 0}},
	} {
		for _, l := range [][2]string{{x.x, x.y}, {x.y, x.x}} {
			if path, e := wire.Apart(parse(t, l[0]), parse(t, l[1])); !slices.Equal(path, x.want) || e != api.OK {
				t.Error(l, path, e)
			}
		}
		if path, e := wire.Apart(parse(t, x.x), parse(t, x.x)); len(path) > 0 || e != api.ErrNone {
			t.Error(x.x, path, e)
		}
	}
	if path, e := wire.Apart(deep(249, leaf(1, 0)), deep(249, leaf(2, 0))); !slices.Equal(path, make([]int, 249)) || e != api.OK {
		t.Error(len(path), e)
	}
}

// P2.5: Apart against all paths, one after the other.
func TestApartOfSome(t *testing.T) {
	r := seeded(8)
	for range 500 {
		x := some(r)
		y := like(r, like(r, x))
		want, differs := []int(nil), false
		there := paths(y)
		for _, p := range paths(x) {
			if !slices.ContainsFunc(there, func(q []int) bool { return slices.Equal(p, q) }) {
				continue
			}
			a, b := follow(x, p), follow(y, p)
			if a.Kind != b.Kind || a.Num != b.Num || a.Text != b.Text || len(a.Kids) != len(b.Kids) {
				want, differs = p, true
				break
			}
		}
		path, e := wire.Apart(x, y)
		if differs != (e == api.OK) || e != api.OK && e != api.ErrNone || !slices.Equal(path, want) || differs == same(x, y) {
			t.Error(plainText(x), plainText(y), path, e)
		}
	}
}

// R4: arguments are neither changed nor shared with results, nor results with one another.
func TestMemory(t *testing.T) {
	r := seeded(9)
	for range 100 {
		x, y := some(r), some(r)
		all := paths(x)
		path := all[r.IntN(len(all))]
		keptX, keptY, keptPath := cloned(x), cloned(y), slices.Clone(path)
		under, underKept := follow(x, path), cloned(follow(x, path))

		at, _ := wire.At(x, path)
		put, _ := wire.Put(x, path, y)
		putKept := cloned(put)
		again, _ := wire.Put(x, path, y)
		whole, _ := wire.Put(y, nil, y)
		found, _ := wire.Find(x, under)
		foundAgain, _ := wire.Find(x, under)
		apart, _ := wire.Apart(x, put)
		spoil(at)
		spoil(again)
		spoil(whole)
		for i, l := range found {
			for k := range l {
				l[k] = -1
			}
			found[i] = append(l, 7)
		}
		for i := range apart {
			apart[i] = -1
		}
		last, _ := wire.Find(x, under)
		if !same(x, keptX) || !same(y, keptY) || !slices.Equal(path, keptPath) || !same(under, underKept) || !same(put, putKept) || !slices.EqualFunc(last, foundAgain, slices.Equal) {
			t.Error(plainText(keptX), keptPath, plainText(keptY))
		}
		for _, l := range found {
			if k := len(l) - 1; l[k] != 7 || slices.ContainsFunc(l[:k], func(n int) bool { return n != -1 }) {
				t.Error(found)
			}
		}
		spoil(put)
		if !same(x, keptX) || !same(y, keptY) {
			t.Error(plainText(keptX), keptPath, plainText(keptY))
		}
	}
}

// R4: bytes that are read are neither changed nor shared with what was read; lists that are written neither.
func TestMemoryOfBytes(t *testing.T) {
	x := parse(t, `1(2"abc" 2"abc" 3(4"x"))`)
	list := []api.Item{x, x}
	b, _ := wire.Join(list)
	kept := slices.Clone(b)
	l, _, _ := wire.Split(b)
	one, _, _ := wire.Decode(b[:len(b)/2])
	if !slices.Equal(b, kept) {
		t.Error("the bytes were changed")
	}
	clear(b)
	if len(l) != 2 || !same(l[0], x) || !same(l[1], x) || !same(one, x) {
		t.Error("what was read is that of the bytes")
	}
	spoil(l[0])
	if !same(l[1], x) || !same(one, x) {
		t.Error("items that were read share memory")
	}
	if again, _ := wire.Join(list); !slices.Equal(again, kept) || !same(list[0], list[1]) {
		t.Error("what was given was changed")
	}
}
