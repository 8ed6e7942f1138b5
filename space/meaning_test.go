package space_test

import (
	"slices"
	"strings"
	"testing"

	"hoarstone/api"
	"hoarstone/space"
)

// holds tells a test where texts and digests are not what books say, in the list of a kind.
func holds(t *testing.T, s api.Space, kind int, b book, texts []string, sums []api.Sum) {
	t.Helper()
	for _, text := range texts {
		want := b.meant(text)
		found, e := space.Find(s, kind, text)
		plain, f := space.Plain(s, kind, text)
		sum, is := b.plain(text)
		switch {
		case len(want) == 0:
			tells(t, "Find "+text, found, e, nil, api.ErrNone)
			same(t, "Plain "+text, plain, f, api.Sum{}, api.ErrNone)
		case is:
			tells(t, "Find "+text, found, e, want, api.OK)
			same(t, "Plain "+text, plain, f, sum, api.OK)
		default:
			tells(t, "Find "+text, found, e, want, api.OK)
			same(t, "Plain "+text, plain, f, api.Sum{}, api.ErrClash)
		}
	}
	for _, sum := range sums {
		want := slices.DeleteFunc(b.paths(), func(path string) bool { return b[path] != sum })
		wanted := api.OK
		if len(want) == 0 {
			wanted = api.ErrNone
		}
		l, e := space.Names(s, kind, sum)
		tells(t, "Names in "+told(s), l, e, want, wanted)
		name, e := space.Name(s, kind, sum)
		best, _ := b.name(sum)
		same(t, "Name in "+told(s), name, e, best, wanted)
	}
}

// P7.3: what texts mean, and the names of digests, in random namespaces: of all ends of paths, of what is near them, and of other texts.
func TestMeaning(t *testing.T) {
	r := seeded(20)
	for range 250 {
		b := some(r, 14)
		s := b.space()
		texts := []string{"a", "b", "z", "ab", "a.a", "a.b", "zz.zz.zz.zz.zz", longest, path(r), path(r)}
		texts = append(texts, append(b[0].ends(), b[1].ends()...)...)
		for i, kind := range kinds {
			holds(t, s, kind, b[i], texts, []api.Sum{x(0), x(1), x(2), x(3), x(4)})
		}
	}
}

// P7.3: all namespaces with some of seven paths, each of which ends others, and with each of two digests.
func TestAllSmallLists(t *testing.T) {
	paths := []string{"a", "b", "a.b", "b.b", "a.a.b", "b.a.b", "c.b"}
	texts := append(slices.Clone(paths), "c", "a.a", "b.a", "a.c.b", "b.a.a.b")
	all := 1
	for range paths {
		all *= 3
	}
	for n := range all {
		b := book{}
		for _, path := range paths {
			if n%3 > 0 {
				b[path] = x(n % 3)
			}
			n /= 3
		}
		s := books{b, {"zz": x(1)}}.space()
		holds(t, s, api.OfTerm, b, texts, []api.Sum{x(0), x(1), x(2)})
	}
}

// P7.3: names by hand: which of the ends that are plain is taken.
func TestNameByHand(t *testing.T) {
	for i, y := range []struct {
		l    []api.Entry
		sum  int
		want string
	}{
		{entries("a", 1), 1, "a"}, {entries("a.b.c.d.e", 1), 1, "e"}, {entries("zero.map", 0), 0, "map"},
		// A path of another digest is this text.
		{entries("list.map", 1, "map", 2), 1, "list.map"}, {entries("a.b.c", 1, "b.c", 2, "c", 3), 1, "a.b.c"}, {entries("a.b.c", 1, "c", 3), 1, "b.c"},
		// A path of the same digest is this text.
		{entries("list.map", 1, "map", 1), 1, "map"}, {entries("list.map", 1, "map", 1, "set.map", 2), 1, "map"}, {entries("list.map", 1, "map", 1, "set.map", 2), 2, "set.map"},
		// All that end so have the digest.
		{entries("a.map", 1, "b.map", 1), 1, "map"}, {entries("a.map", 1, "b.map", 1, "c.map", 2), 1, "a.map"},
		// Fewer words come before fewer bytes, and fewer bytes before the first one.
		{entries("a.b", 1, "abcdefghij", 1, "z.b", 2), 1, "abcdefghij"}, {entries("a.ccc", 1, "b.dd", 1), 1, "dd"}, {entries("a.ca", 1, "b.bb", 1), 1, "bb"}, {entries("a.b", 1, "z.a", 1), 1, "a"},
		{entries("aa.x", 1, "b.x", 1, "c.x", 2), 1, "b.x"}, {entries("a.x", 1, "b.x", 1, "c.x", 2), 1, "a.x"}, {entries("a.b.x", 1, "aaa.aaa", 1, "b.aaa", 2, "b.b.x", 2), 1, "aaa.aaa"},
		{entries("a.b.x", 1, "b.b.x", 2, "c.aa.x", 1, "d.a.y", 1, "e.y", 2), 1, "a.y"},
		// The shortest end of the first path is not the best one.
		{entries("a.long", 1, "b.s", 1), 1, "s"}, {entries("a.s", 1, "b.long", 1, "c.s", 2), 1, "long"},
		{entries("a.b.c.d.e", 1, "b.b.c.d.e", 2), 1, "a.b.c.d.e"},
	} {
		for k, s := range []api.Space{{Terms: y.l}, {Types: y.l}} {
			name, e := space.Name(s, kinds[k], x(y.sum))
			same(t, told(s), name, e, y.want, api.OK)
			_, e = space.Name(s, kinds[1-k], x(y.sum))
			if e != api.ErrNone {
				t.Error(i, e)
			}
		}
	}
}

// The chapter's examples 1, 2 and 4.
func TestExamples(t *testing.T) {
	s := terms("a.map", 1, "b.map", 1, "c.map", 2, "map.id", 2)
	l, e := space.Find(s, api.OfTerm, "map")
	tells(t, "map", l, e, entries("a.map", 1, "b.map", 1, "c.map", 2), api.OK)
	y, e := space.Plain(s, api.OfTerm, "map")
	same(t, "map", y, e, x(0), api.ErrClash)
	y, e = space.Plain(s, api.OfTerm, "a.map")
	same(t, "a.map", y, e, x(1), api.OK)
	y, e = space.Plain(s, api.OfTerm, "id")
	same(t, "id", y, e, x(2), api.OK)
	name, e := space.Name(s, api.OfTerm, x(2))
	same(t, "y", name, e, "id", api.OK)
	name, e = space.Name(s, api.OfTerm, x(1))
	same(t, "x", name, e, "a.map", api.OK)

	s = terms("list.map", 2, "map", 1)
	l, e = space.Find(s, api.OfTerm, "map")
	tells(t, "map", l, e, entries("map", 1), api.OK)
	y, e = space.Plain(s, api.OfTerm, "map")
	same(t, "map", y, e, x(1), api.OK)
	name, e = space.Name(s, api.OfTerm, x(2))
	same(t, "y", name, e, "list.map", api.OK)

	s = terms("a", 1)
	for i, want := range []api.Errno{api.ErrForm, api.ErrForm, api.ErrTwice, api.ErrRange} {
		var got api.Space
		switch i {
		case 0:
			got, e = space.Add(s, api.OfTerm, "A", x(1))
		case 1:
			got, e = space.Add(s, api.OfTerm, "a.b.c.d.e.f", x(1))
		case 2:
			got, e = space.Move(s, api.OfTerm, "a", "a")
		case 3:
			got, e = space.Add(s, 3, "b", x(1))
		}
		makes(t, "example 4", got, e, api.Space{}, want)
	}
}

// P7.3: full lists of paths that are as long as paths may be, of which many end alike.
func TestFullLists(t *testing.T) {
	for _, digests := range []int{1, 2, 300} {
		b := book{}
		for i := range space.MaxEntries {
			first := strings.Repeat(string([]byte{'a' + byte(i/26)}), 9) + string([]byte{'a' + byte(i%26)})
			b[first+longest[10:]] = x(i % digests)
		}
		s := api.Space{Types: b.entries()}
		ends := endsOf(longest)
		some := append(b.paths()[:3], ends...)
		holds(t, s, api.OfType, b, some, nil)
		name, e := space.Name(s, api.OfType, x(0))
		if digests == 1 {
			same(t, "one digest", name, e, ends[0], api.OK)
		} else {
			same(t, "some digests", name, e, b.paths()[0], api.OK)
		}
	}
}
