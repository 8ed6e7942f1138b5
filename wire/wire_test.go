package wire_test

import (
	"math"
	"slices"
	"strings"
	"testing"

	"hoarstone/api"
	"hoarstone/wire"
)

// errorOf is an item with its error.
type errorOf struct {
	name string
	x    api.Item
	e    api.Errno
}

// items are items with their errors: each limit and what is beyond it, and which error comes first.
func items() []errorOf {
	long := strings.Repeat("x", wire.MaxText+1)
	// The next item behind these, in order, is the first one beyond the limit of items, and that of levels.
	corner := func(x api.Item) api.Item {
		return node(append(slices.Repeat([]api.Item{leaf(2, 0)}, wire.MaxItems-wire.MaxLevel), deep(wire.MaxLevel-1, x))...)
	}
	return []errorOf{
		{"least", leaf(1, 0), api.OK},
		{"greatest", api.Item{Kind: 63, Num: 1 << 40, Text: long[1:]}, api.OK},
		{"zero", api.Item{}, api.ErrRange},
		{"Kind 0", leaf(0, 1), api.ErrRange},
		{"Kind -1", leaf(-1, 0), api.ErrRange},
		{"Kind 64", leaf(64, 0), api.ErrRange},
		{"Kind 65", leaf(65, 0), api.ErrRange},
		{"least Kind", leaf(math.MinInt, 0), api.ErrRange},
		{"greatest Kind", leaf(math.MaxInt, 0), api.ErrRange},
		{"Num -1", leaf(1, -1), api.ErrRange},
		{"Num above", leaf(1, 1<<40+1), api.ErrRange},
		{"least Num", leaf(1, math.MinInt), api.ErrRange},
		{"greatest Num", leaf(1, math.MaxInt), api.ErrRange},
		{"long", said(long), api.ErrLong},
		{"Kind before Text", api.Item{Kind: 64, Text: long}, api.ErrRange},
		{"Num before Text", api.Item{Kind: 1, Num: -1, Text: long}, api.ErrRange},
		{"Kid", node(leaf(1, 0), node(leaf(1, 0), leaf(64, 0))), api.ErrRange},
		{"first Kid decides: Text", node(said(long), leaf(0, 0)), api.ErrLong},
		{"first Kid decides: Kind", node(leaf(0, 0), said(long)), api.ErrRange},
		{"item before its Kids", api.Item{Kind: 1, Num: -1, Kids: []api.Item{said(long)}}, api.ErrRange},
		{"Kids before the next Kid", node(node(said(long)), leaf(0, 0)), api.ErrLong},
		{"250 levels", deep(249, leaf(1, 0)), api.OK},
		{"251 levels", deep(250, leaf(1, 0)), api.ErrLong},
		{"level before Kind", deep(250, leaf(0, 0)), api.ErrLong},
		{"Kind before a deeper level", node(leaf(0, 0), deep(249, leaf(1, 0))), api.ErrRange},
		{"two of 250 levels", node(deep(248, leaf(1, 0)), deep(248, leaf(1, 0))), api.OK},
		{"5000 items", wide(4999, leaf(1, 0)), api.OK},
		{"5001 items", wide(5000, leaf(1, 0)), api.ErrMany},
		{"5001 items, not side by side", node(wide(2499, leaf(1, 0)), wide(2499, leaf(1, 0))), api.ErrMany},
		{"how many before Kind", with(wide(5000, leaf(1, 0)), 4999, leaf(0, 0)), api.ErrMany},
		{"Kind before how many", with(wide(5000, leaf(1, 0)), 4998, leaf(0, 0)), api.ErrRange},
		{"level before how many", corner(leaf(1, 0)), api.ErrLong},
		{"level before all", corner(leaf(0, -1)), api.ErrLong},
		{"in itself", endless(), api.ErrLong},
		{"in itself, with more", endless(leaf(1, 0), leaf(1, 0)), api.ErrLong},
		{"in itself, with many", endless(slices.Repeat([]api.Item{leaf(1, 0)}, 20)...), api.ErrMany},
		{"in itself, and wrong", endless(leaf(64, 0)), api.ErrRange},
		{"in itself twice", endless(endless(), endless()), api.ErrLong},
	}
}

// with returns an item with another Kid i.
func with(x api.Item, i int, kid api.Item) api.Item {
	x.Kids = slices.Clone(x.Kids)
	x.Kids[i] = kid
	return x
}

// P2.1: right items, each limit, and which error comes first.
func TestCheck(t *testing.T) {
	for _, x := range items() {
		if e := wire.Check(x.x); e != x.e {
			t.Error(x.name, e)
		}
	}
}

// P2.1: all functions that have items tell the errors of Check first, one item after the other, and nothing else.
func TestErrorsOfCheck(t *testing.T) {
	good := node(leaf(2, 0))
	twice := []api.Item{wide(4000, said("xxxxxxxxxxxxxxxxxxxx")), wide(4000, leaf(1, 0))} // too long, too
	for _, bad := range items() {
		if bad.e == api.OK {
			continue
		}
		items, levels, sizeError := wire.Size(bad.x)
		b, encodeError := wire.Encode(bad.x)
		joined, joinError := wire.Join(append(slices.Clone(twice), bad.x, endless(leaf(0, 0))))
		s, printError := wire.Print(bad.x)
		at, atError := wire.At(bad.x, []int{-1})
		sum, sumError := wire.Sum(bad.x)
		for i, e := range []api.Errno{sizeError, encodeError, joinError, printError, atError, sumError} {
			if e != bad.e {
				t.Error(bad.name, i, e)
			}
		}
		if items != 0 || levels != 0 || len(b) > 0 || len(joined) > 0 || s != "" || !isZero(at) || sum != (api.Sum{}) {
			t.Error(bad.name, items, levels, len(b), len(joined), len(s), at, sum)
		}
		for _, l := range [][2]api.Item{{bad.x, good}, {good, bad.x}, {bad.x, leaf(0, 0)}, {bad.x, said(strings.Repeat("x", 4097))}, {bad.x, endless()}} {
			errorsOfTwo(t, bad.name, l[0], l[1], bad.e)
		}
	}
}

// errorsOfTwo asks whether all functions that have two items tell an error.
func errorsOfTwo(t *testing.T, name string, x, y api.Item, want api.Errno) {
	t.Helper()
	c, compareError := wire.Compare(x, y)
	put, putError := wire.Put(x, []int{9}, y)
	found, findError := wire.Find(x, y)
	apart, apartError := wire.Apart(x, y)
	for i, e := range []api.Errno{compareError, putError, findError, apartError} {
		if e != want {
			t.Error(name, i, e)
		}
	}
	if c != 0 || !isZero(put) || len(found) > 0 || len(apart) > 0 {
		t.Error(name, c, put, found, apart)
	}
}

// P2.1: how many items there are, and the greatest level.
func TestSize(t *testing.T) {
	l := []api.Item{leaf(3, 0), node(leaf(2, 0), leaf(2, 5)), node(node(node()), node()), node(node(), node(node())), deep(249, leaf(1, 0)), wide(4999, leaf(1, 0)), said("(((")}
	for i, want := range [][2]int{{1, 1}, {3, 2}, {4, 3}, {4, 3}, {250, 250}, {5000, 2}, {1, 1}} {
		if items, levels, e := wire.Size(l[i]); items != want[0] || levels != want[1] || e != api.OK {
			t.Error(i, items, levels, e)
		}
	}
	r := seeded(1)
	for range 200 {
		x := some(r)
		if items, levels, e := wire.Size(x); items != count(x) || levels != height(x) || e != api.OK {
			t.Error(plainText(x), items, levels, e)
		}
	}
}

// P2.1: the order of items, of which each one comes before the next ones.
func TestCompare(t *testing.T) {
	rising := []string{
		`1`, `1(1)`, `1(1 1)`, `1(1 1(1))`, `1(1 2)`, `1(1(1) 1)`, `1(1"a")`, `1(1:1)`, `1(2)`, `1(9)`, `1(10)`,
		`1"\00"`, `1"\00"(1)`, `1"\00\00"`, `1" "`, `1"a"`, `1"a"(63)`, `1"a\00"`, `1"aa"`, `1"ab"`, `1"b"`, `1"b"(1)`, `1"\7f"`, `1"\80"`, `1"\c3\a9"`, `1"\ff"`,
		`1:1`, `1:2`, `1:2(1)`, `1:2"a"`, `1:10`, `1:255`, `1:256`, `1:1099511627776`, `2`, `2:1`, `9`, `10`, `63`,
	}
	for i, a := range rising {
		for j, b := range rising {
			want := 0
			if i < j {
				want = -1
			} else if i > j {
				want = 1
			}
			if c, e := wire.Compare(parse(t, a), parse(t, b)); c != want || e != api.OK {
				t.Error(a, b, c, e)
			}
		}
	}
}
