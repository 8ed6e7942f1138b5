package space_test

import (
	"crypto/sha256"
	"slices"
	"strconv"
	"testing"

	"hoarstone/api"
	"hoarstone/space"
	"hoarstone/sum"
	"hoarstone/trie"
)

// hash returns the digest of parts of bytes, one behind the other.
func hash(parts ...[]byte) api.Sum { return sha256.Sum256(slices.Concat(parts...)) }

// leaf returns the digest of the node of a stem with a digest, and no branches.
func leaf(stem string, n int) []byte {
	y := x(n)
	h := hash([]byte{byte(len(stem))}, []byte(stem), []byte{1}, y[:], []byte{0, 0})
	return h[:]
}

// pair returns the digest of the list of two digests.
func pair(a, b []byte) api.Sum {
	l, m := hash([]byte{1}, a), hash([]byte{1}, b)
	return hash([]byte{2}, l[:], m[:])
}

// P7.5: roots by hand, byte by byte.
func TestRootByHand(t *testing.T) {
	none := hash()
	one := hash([]byte{1, 'a'}, []byte{1}, sumOf(5), []byte{0, 1, '.'}, leaf("b", 6))
	two := hash([]byte{2, 'm', '.', 0, 0, 2, 'a'}, leaf("", 1), []byte{'b'}, leaf("c", 0))
	for _, y := range []struct {
		s    api.Space
		want api.Sum
	}{
		{api.Space{}, pair(none[:], none[:])}, {terms("a", 1), pair(leaf("a", 1), none[:])}, {types("a", 1), pair(none[:], leaf("a", 1))}, {both(terms("a", 1), types("list.map", 0)), pair(leaf("a", 1), leaf("list.map", 0))},
		{terms("a", 5, "a.b", 6), pair(one[:], none[:])}, {both(terms("a", 5, "a.b", 6), types("m.a", 1, "m.bc", 0)), pair(one[:], two[:])},
	} {
		got, e := space.Root(y.s)
		same(t, told(y.s), got, e, y.want, api.OK)
	}
}

// sumOf returns the bytes of a digest.
func sumOf(n int) []byte {
	y := x(n)
	return y[:]
}

// P7.5: roots are those of the lists' maps, also of full lists of the longest paths.
func TestRoot(t *testing.T) {
	root := func(b book) api.Sum {
		var m trie.Map
		for path, y := range b {
			next, e := trie.Put(m, path, y)
			if e != api.OK {
				t.Fatal(path, e)
			}
			m = next
		}
		return trie.Root(m)
	}
	full := book{}
	for i := range space.MaxEntries {
		full["abcdefgh"+string([]byte{'a' + byte(i/26), 'a' + byte(i%26)})+longest[10:]] = x(i)
	}
	r := seeded(40)
	all := []books{{full, full}, {full, {}}, {{}, full}}
	for range 200 {
		all = append(all, some(r, 20))
	}
	for _, b := range all {
		got, e := space.Root(b.space())
		same(t, told(b.space()), got, e, sum.List([]api.Sum{root(b[0]), root(b[1])}), api.OK)
	}
}

// P7.5: what differs, and that it leads there.
func TestDiff(t *testing.T) {
	r := seeded(41)
	for range 600 {
		b := some(r, 10)
		c := near(r, b)
		if r.IntN(3) == 0 {
			c = some(r, 10)
		}
		l, e := space.Diff(b.space(), c.space())
		tells(t, told(b.space())+" to "+told(c.space()), l, e, b.diff(c), api.OK)
		got, e := space.Apply(b.space(), l)
		makes(t, told(b.space()), got, e, c.space(), api.OK)
	}
	l, e := space.Diff(both(terms("a", 1, "b", 0, "c", 3), types("z", 1)), both(terms("a.b", 1, "b", 2, "c", 3), types("a", 0, "z", 0)))
	tells(t, "by hand", l, e, []space.Change{
		{Kind: api.OfTerm, Path: "a", Had: true, Old: x(1)}, {Kind: api.OfTerm, Path: "a.b", Has: true, New: x(1)}, {Kind: api.OfTerm, Path: "b", Had: true, Has: true, New: x(2)},
		{Kind: api.OfType, Path: "a", Has: true}, {Kind: api.OfType, Path: "z", Had: true, Has: true, Old: x(1)},
	}, api.OK)
}

// behind returns the books behind changes, and the error.
func (b books) behind(l []space.Change) (books, api.Errno) {
	b = b.copy()
	for _, c := range l {
		i := slices.Index(kinds[:], c.Kind)
		if i < 0 {
			return books{}, api.ErrRange
		}
		if _, e := space.Path(c.Path); e != api.OK || !c.Had && !c.Has || !c.Had && c.Old != x(0) || !c.Has && c.New != x(0) {
			return books{}, api.ErrForm
		}
		if old, had := b[i][c.Path]; had != c.Had || old != c.Old {
			return books{}, api.ErrClash
		}
		delete(b[i], c.Path)
		if c.Has {
			b[i][c.Path] = c.New
		}
		if len(b[i]) > space.MaxEntries {
			return books{}, api.ErrFull
		}
	}
	return b, api.OK
}

// P7.5: changes that are made one after the other, and wrong ones among them.
func TestApply(t *testing.T) {
	r := seeded(42)
	errors := map[api.Errno]int{}
	for range 3000 {
		b := some(r, 6)
		var l []space.Change
		at := b
		for range r.IntN(5) {
			next := near(r, at)
			l = append(l, at.diff(next)...)
			at = next
		}
		if len(l) > 0 && r.IntN(2) == 0 {
			c := &l[r.IntN(len(l))]
			switch r.IntN(7) {
			case 0:
				c.Kind = r.IntN(4)
			case 1:
				c.Path = pick(r, []string{"", "A", path(r), path(r)})
			case 2:
				c.Had = !c.Had
			case 3:
				c.Has = !c.Has
			case 4:
				c.Old = digest(r)
			case 5:
				c.New = digest(r)
			case 6:
				c.Had, c.Has = false, false
			}
		}
		want, wanted := b.behind(l)
		got, e := space.Apply(b.space(), l)
		makes(t, told(b.space()), got, e, want.space(), wanted)
		errors[e]++
	}
	if len(errors) != 4 || errors[api.OK] < 500 || errors[api.ErrRange] < 20 || errors[api.ErrForm] < 20 || errors[api.ErrClash] < 20 {
		t.Error(errors)
	}
}

// P7.5: the errors of one change, in their order, and which of several changes decides.
func TestApplyErrors(t *testing.T) {
	s := terms("a", 1, "zero", 0)
	full := both(api.Space{Terms: many("m", space.MaxEntries)}, types("a", 1))
	change := func(kind int, path string, had, has bool, old, new int) space.Change {
		return space.Change{Kind: kind, Path: path, Had: had, Has: has, Old: x(old), New: x(new)}
	}
	add, change2, drop := change(1, "b", false, true, 0, 2), change(1, "a", true, true, 1, 2), change(1, "a", true, false, 1, 0)
	out, in := change(1, "m.eaa", true, false, 1, 0), change(1, "m.eaa", false, true, 0, 7)
	for i, y := range []struct {
		s api.Space
		l []space.Change
		e api.Errno
	}{
		{s, nil, api.OK}, {s, []space.Change{add, change2}, api.OK}, {s, []space.Change{drop, add}, api.OK}, {s, []space.Change{change(1, "a", true, true, 1, 1)}, api.OK}, {s, []space.Change{change(1, "zero", true, false, 0, 0)}, api.OK}, {s, []space.Change{change(1, "zero", true, true, 0, 0)}, api.OK}, {s, []space.Change{change(1, "b", false, true, 0, 0)}, api.OK}, {s, []space.Change{change(2, "a", false, true, 0, 1)}, api.OK},
		{s, []space.Change{change(0, "a", true, false, 1, 0)}, api.ErrRange}, {s, []space.Change{change(3, "A", false, false, 1, 1)}, api.ErrRange}, {s, []space.Change{change(-1, "a", true, false, 1, 0)}, api.ErrRange},
		{s, []space.Change{change(1, "A", true, false, 1, 0)}, api.ErrForm}, {s, []space.Change{change(1, "", true, false, 1, 0)}, api.ErrForm}, {s, []space.Change{change(1, "a", false, false, 0, 0)}, api.ErrForm}, {s, []space.Change{change(1, "b", false, false, 0, 0)}, api.ErrForm}, {s, []space.Change{change(1, "b", false, true, 1, 2)}, api.ErrForm}, {s, []space.Change{change(1, "a", true, false, 1, 1)}, api.ErrForm}, {s, []space.Change{change(1, "a", true, false, 2, 1)}, api.ErrForm}, {s, []space.Change{change(1, "a", false, true, 1, 1)}, api.ErrForm},
		{s, []space.Change{change(1, "a", true, false, 2, 0)}, api.ErrClash}, {s, []space.Change{change(1, "a", true, false, 0, 0)}, api.ErrClash}, {s, []space.Change{change(1, "b", true, true, 1, 2)}, api.ErrClash}, {s, []space.Change{change(1, "b", true, true, 0, 2)}, api.ErrClash}, {s, []space.Change{change(1, "a", false, true, 0, 1)}, api.ErrClash}, {s, []space.Change{change(1, "zero", false, true, 0, 1)}, api.ErrClash}, {s, []space.Change{change(2, "a", true, false, 1, 0)}, api.ErrClash},
		{s, []space.Change{add, add}, api.ErrClash}, {s, []space.Change{drop, drop}, api.ErrClash}, {s, []space.Change{drop, change2}, api.ErrClash}, {s, []space.Change{change2, drop}, api.ErrClash},
		{s, []space.Change{add, add, change(9, "a", true, false, 1, 0)}, api.ErrClash}, {s, []space.Change{change(9, "a", true, false, 1, 0), add, add}, api.ErrRange}, {s, []space.Change{drop, change(1, "A", true, false, 1, 0), drop}, api.ErrForm},
		{full, []space.Change{add}, api.ErrFull}, {full, []space.Change{add, out}, api.ErrFull}, {full, []space.Change{out, add}, api.OK}, {full, []space.Change{out, in}, api.OK}, {full, []space.Change{out, add, in}, api.ErrFull}, {full, []space.Change{change(1, "m.eaa", true, true, 1, 5)}, api.OK}, {full, []space.Change{change(2, "b", false, true, 0, 1)}, api.OK},
		{full, []space.Change{in}, api.ErrClash}, {full, []space.Change{change(1, "b", false, true, 1, 1)}, api.ErrForm}, {full, []space.Change{change(1, "b", true, true, 1, 1)}, api.ErrClash}, {full, []space.Change{add, change(9, "a", true, false, 1, 0)}, api.ErrFull},
	} {
		got, e := space.Apply(y.s, y.l)
		if e != y.e || e != api.OK && !isZero(got) {
			t.Error(strconv.Itoa(i)+":", e, "want", y.e)
		}
	}
}
