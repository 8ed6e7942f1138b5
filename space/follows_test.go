package space_test

import (
	"slices"
	"strings"
	"testing"

	"hoarstone/api"
	"hoarstone/space"
)

// shorter returns all texts of one word, and of two, that are made of the words of a list.
func shorter(b book) []string {
	var all []string
	for path := range b {
		all = append(all, words(path)...)
	}
	slices.Sort(all)
	all = slices.Compact(all)
	l := slices.Clone(all)
	for _, first := range all {
		for _, second := range all {
			l = append(l, first+"."+second)
		}
	}
	return l
}

// P7.7, P0.3: the name of a digest is plain, and has this digest; and no text of fewer words, no text of as many words and fewer bytes, and none of as many that comes before it, does.
func TestNamesAreRead(t *testing.T) {
	r := seeded(60)
	for range 150 {
		b := some(r, 12)
		s := b.space()
		for i, kind := range kinds {
			for _, sum := range b[i] {
				name, e := space.Name(s, kind, sum)
				same(t, "Name", name, e, name, api.OK)
				got, e := space.Plain(s, kind, name)
				same(t, "Plain "+name, got, e, sum, api.OK)
				for _, text := range append(shorter(b[i]), b[i].ends()...) {
					fewer := len(words(text)) - len(words(name))
					if fewer > 0 || fewer == 0 && (len(text) > len(name) || len(text) == len(name) && text >= name) {
						continue
					}
					if got, e := space.Plain(s, kind, text); e == api.OK && got == sum {
						t.Errorf("%s: %s is not %s", told(s), name, text)
					}
				}
			}
		}
	}
}

// P7.7: of all namespaces with some of four paths in each list, with each of two digests, no two have the same root.
func TestAllSmallRoots(t *testing.T) {
	paths := []string{"a", "b", "a.b", "ab"}
	var lists []book
	for n := range 81 {
		b := book{}
		for _, path := range paths {
			if n%3 > 0 {
				b[path] = x(n%3 - 1)
			}
			n /= 3
		}
		lists = append(lists, b)
	}
	met := map[api.Sum]api.Space{}
	for _, b := range lists {
		for _, c := range lists {
			s := books{b, c}.space()
			root, e := space.Root(s)
			if other, is := met[root]; is || e != api.OK {
				t.Errorf("%s, %s: %d", told(s), told(other), e)
			}
			met[root] = s
		}
	}
}

// P7.7: the root hangs on what is in a namespace, and not on how it came about; roots are the same just if Same says so, and just if nothing differs.
func TestHoweverItCameAbout(t *testing.T) {
	r := seeded(61)
	for range 150 {
		b, c := some(r, 8), some(r, 8)
		s, root := b.space(), api.Sum{}
		for i, kind := range kinds {
			for path := range b[i] {
				if _, is := c[i][path]; !is {
					s, _ = space.Drop(s, kind, path)
				}
			}
			for path, y := range c[i] {
				if _, is := b[i][path]; is {
					s, _ = space.Set(s, kind, path, y)
				} else {
					s, _ = space.Add(s, kind, path, y)
				}
			}
		}
		root, e := space.Root(s)
		want, _ := space.Root(c.space())
		same(t, told(c.space()), root, e, want, api.OK)
		makes(t, "made", s, e, c.space(), api.OK)
		near := near(r, c).space()
		other, _ := space.Root(near)
		l, _ := space.Diff(s, near)
		if is := space.Same(s, near); is != (root == other) || is != (len(l) == 0) {
			t.Error(told(s), told(near))
		}
	}
}

// P7.7: Apply of Diff leads from one namespace to the other one, and back, also between large ones. Where paths come in before others go out, P7.5 tells that there is no room on the way.
func TestThereAndBack(t *testing.T) {
	full := api.Space{Terms: many("m", space.MaxEntries), Types: many("m", space.MaxEntries)}
	behind := api.Space{Terms: many("z", space.MaxEntries)}
	other := api.Space{Terms: slices.Clone(full.Terms), Types: many("a", 7)}
	for i := range other.Terms {
		other.Terms[i].Sum[31]++
	}
	for i, y := range []struct {
		s, t        api.Space
		there, back api.Errno
	}{
		{api.Space{}, full, api.OK, api.OK}, {terms("z", 1), api.Space{Types: full.Types}, api.OK, api.OK}, {api.Space{Terms: full.Terms[:200]}, full, api.OK, api.OK}, {api.Space{Terms: full.Terms, Types: full.Types[:293]}, other, api.OK, api.OK}, {full, full, api.OK, api.OK},
		{full, behind, api.OK, api.ErrFull}, {full, other, api.ErrFull, api.OK},
	} {
		for _, way := range []struct {
			from, to api.Space
			e        api.Errno
		}{{y.s, y.t, y.there}, {y.t, y.s, y.back}} {
			l, e := space.Diff(way.from, way.to)
			if e != api.OK {
				t.Fatal(i, e)
			}
			got, e := space.Apply(way.from, l)
			makes(t, told(way.from), got, e, way.to, way.e)
		}
	}
}

// P7.7: what was put into a place is under it, and what is under a place can be put elsewhere.
func TestIntoIsUnder(t *testing.T) {
	r := seeded(62)
	done := 0
	for range 800 {
		b, c, p := some(r, 6), some(r, 3), path(r)
		s, e := space.Into(b.space(), p, c.space())
		if e != api.OK {
			continue
		}
		done++
		got, e := space.Under(s, p)
		want, wanted := b.under(p), c
		for i := range want {
			for path, y := range wanted[i] {
				want[i][path] = y
			}
		}
		makes(t, p, got, e, want.space(), api.OK)
		again, e := space.Into(api.Space{}, p, got)
		if e != api.OK {
			t.Fatal(e)
		}
		for _, y := range append(slices.Clone(again.Terms), again.Types...) {
			if !strings.HasPrefix(y.Path, p+".") {
				t.Error(y.Path, p)
			}
		}
	}
	if done < 100 {
		t.Error(done)
	}
}

// P7.7: bases of two commits are those of both the other way round; an ancestor is the only base; and no base is an ancestor of another one.
func TestBasesFollow(t *testing.T) {
	r := seeded(63)
	two := 0
	for range 40 {
		l, sums := history(r, 2+r.IntN(20)).commits()
		for i, x := range sums {
			ancestors, _ := space.Ancestors(l, x)
			for _, y := range sums[:i+1] {
				there, e := space.Bases(l, x, y)
				back, f := space.Bases(l, y, x)
				tells(t, "turned", back, f, there, e)
				if slices.Contains(ancestors, y) {
					tells(t, "ancestor", there, e, []api.Sum{y}, api.OK)
				}
				if len(there) > 1 {
					two++
				}
				for _, base := range there {
					for _, other := range there {
						up, e := space.Ancestors(l, base)
						if e != api.OK || other != base && slices.Contains(up, other) {
							t.Error(e, base, other)
						}
					}
				}
			}
		}
	}
	if two < 100 {
		t.Error(two)
	}
}
