package wire_test

import (
	"encoding/binary"
	"math/rand/v2"
	"slices"
	"strconv"
	"strings"
	"testing"

	"hoarstone/api"
	"hoarstone/wire"
)

// leaf returns an item without Text and Kids.
func leaf(kind, num int) api.Item { return api.Item{Kind: kind, Num: num} }

// said returns the item of Kind 1 with a Text.
func said(text string) api.Item { return api.Item{Kind: 1, Text: text} }

// node returns the item of Kind 1 with Kids.
func node(kids ...api.Item) api.Item { return api.Item{Kind: 1, Kids: kids} }

// wide returns an item of Kind 1 with so many Kids, each of which is the same item.
func wide(n int, kid api.Item) api.Item { return node(slices.Repeat([]api.Item{kid}, n)...) }

// deep returns so many items of Kind 1 in one another, around an item.
func deep(n int, x api.Item) api.Item {
	for range n {
		x = node(x)
	}
	return x
}

// endless returns an item that has some Kids and then itself.
func endless(kids ...api.Item) api.Item {
	x := node(append(slices.Clone(kids), api.Item{})...)
	x.Kids[len(kids)] = x
	return x
}

// count returns how many items are in an item.
func count(x api.Item) int {
	n := 1
	for _, k := range x.Kids {
		n += count(k)
	}
	return n
}

// height returns the greatest level in an item.
func height(x api.Item) int {
	n := 0
	for _, k := range x.Kids {
		n = max(n, height(k))
	}
	return n + 1
}

// same reports whether two items are the same.
func same(x, y api.Item) bool {
	return x.Kind == y.Kind && x.Num == y.Num && x.Text == y.Text && slices.EqualFunc(x.Kids, y.Kids, same)
}

// isZero reports whether an item is zero.
func isZero(x api.Item) bool { return same(x, api.Item{}) }

// cloned returns a copy of an item.
func cloned(x api.Item) api.Item {
	kids := make([]api.Item, len(x.Kids))
	for i, k := range x.Kids {
		kids[i] = cloned(k)
	}
	x.Kids = kids
	return x
}

// spoil changes all memory of an item.
func spoil(x api.Item) {
	for i, k := range x.Kids {
		spoil(k)
		x.Kids[i] = leaf(99, 99)
	}
}

// plainBytes returns the bytes of an item, as the chapter says them, without asking for limits. A number is written as encoding/binary does.
func plainBytes(x api.Item) []byte {
	head := x.Kind
	if x.Text != "" {
		head += 64
	}
	if len(x.Kids) > 0 {
		head += 128
	}
	b := binary.AppendUvarint([]byte{byte(head)}, uint64(x.Num))
	if x.Text != "" {
		b = append(binary.AppendUvarint(b, uint64(len(x.Text))), x.Text...)
	}
	if len(x.Kids) > 0 {
		b = binary.AppendUvarint(b, uint64(len(x.Kids)))
	}
	for _, k := range x.Kids {
		b = append(b, plainBytes(k)...)
	}
	return b
}

// plainText returns the text of an item, as the chapter says it, without asking for limits.
func plainText(x api.Item) string {
	s := strconv.Itoa(x.Kind)
	if x.Num != 0 {
		s += ":" + strconv.Itoa(x.Num)
	}
	if x.Text != "" {
		s += `"`
		for _, b := range []byte(x.Text) {
			if strings.IndexByte(ownSigns, b) >= 0 {
				s += string(rune(b))
			} else {
				s += `\` + strconv.FormatInt(int64(b)>>4, 16) + strconv.FormatInt(int64(b)&15, 16)
			}
		}
		s += `"`
	}
	if len(x.Kids) > 0 {
		var l []string
		for _, k := range x.Kids {
			l = append(l, plainText(k))
		}
		s += "(" + strings.Join(l, " ") + ")"
	}
	return s
}

// ownSigns are the bytes that stand for themselves in a Text.
const ownSigns = " !#$%&'()*+,-./0123456789:;<=>?@ABCDEFGHIJKLMNOPQRSTUVWXYZ[]^_`abcdefghijklmnopqrstuvwxyz{|}~"

// seeded returns random numbers, other ones for another seed.
func seeded(seed uint64) *rand.Rand { return rand.New(rand.NewPCG(seed, 2)) }

// some returns a right item of few items.
func some(r *rand.Rand) api.Item { return grown(r, 1+r.IntN(4)) }

// grown returns a right item of at most so many levels.
func grown(r *rand.Rand, levels int) api.Item {
	x := leaf([]int{1, 2, 3, 40, 63}[r.IntN(5)], []int{0, 0, 1, 2, 127, 128, 1<<40 - 1, 1 << 40, r.IntN(1 << 20)}[r.IntN(9)])
	x.Text = []string{"", "", "", "a", "b", "ab", "\x00", "\"\\", "é\xff", strings.Repeat("x", 130)}[r.IntN(10)]
	if levels > 1 {
		for range r.IntN(4) {
			x.Kids = append(x.Kids, grown(r, levels-1))
		}
	}
	return x
}

// like returns an item with one place changed, or the same one.
func like(r *rand.Rand, x api.Item) api.Item {
	x = cloned(x)
	at := &x
	for len(at.Kids) > 0 && r.IntN(3) > 0 {
		at = &at.Kids[r.IntN(len(at.Kids))]
	}
	switch r.IntN(6) {
	case 0:
		at.Kind = 64 - at.Kind
	case 1:
		if at.Num == 1<<40 {
			at.Num = 0
		} else {
			at.Num++
		}
	case 2:
		at.Text += "a"
	case 3:
		at.Kids = append(at.Kids, leaf(2, 0))
	case 4:
		at.Kids = nil
	}
	return x
}

// paths returns the paths of all items in an item, in order.
func paths(x api.Item) [][]int {
	l := [][]int{{}}
	for i, k := range x.Kids {
		for _, p := range paths(k) {
			l = append(l, append([]int{i}, p...))
		}
	}
	return l
}

// follow returns the item to which a path leads.
func follow(x api.Item, path []int) api.Item {
	for _, i := range path {
		x = x.Kids[i]
	}
	return x
}

// encode is Encode where no error is expected.
func encode(t *testing.T, x api.Item) []byte {
	t.Helper()
	b, e := wire.Encode(x)
	if e != api.OK {
		t.Fatal("Encode", e)
	}
	return b
}

// parse is Parse where no error is expected.
func parse(t *testing.T, s string) api.Item {
	t.Helper()
	x, i, e := wire.Parse(s)
	if i != 0 || e != api.OK {
		t.Fatalf("Parse %.60q: %d at %d", s, e, i)
	}
	return x
}

// shown is Print where no error is expected.
func shown(t *testing.T, x api.Item) string {
	t.Helper()
	s, e := wire.Print(x)
	if e != api.OK {
		t.Fatal("Print", e)
	}
	return s
}
