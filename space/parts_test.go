package space_test

import (
	"strings"
	"testing"

	"hoarstone/api"
	"hoarstone/space"
)

// under returns what is under a path.
func (b books) under(path string) books {
	c := books{{}, {}}
	for i := range b {
		for from, y := range b[i] {
			if rest, is := strings.CutPrefix(from, path+"."); is {
				c[i][rest] = y
			}
		}
	}
	return c
}

// into returns what is there with other books under a path, and the error.
func (b books) into(path string, c books) (books, api.Errno) {
	all, form, twice, full := b.copy(), false, false, false
	for i := range c {
		for rest, y := range c[i] {
			to := path + "." + rest
			_, is := b[i][to]
			form, twice = form || len(words(to)) > space.MaxWords, twice || is
			all[i][to] = y
		}
		full = full || len(all[i]) > space.MaxEntries
	}
	switch {
	case form:
		return books{}, api.ErrForm
	case twice:
		return books{}, api.ErrTwice
	case full:
		return books{}, api.ErrFull
	}
	return all, api.OK
}

// P7.4: what is under a path, and what is put there, in random namespaces.
func TestUnderAndInto(t *testing.T) {
	r := seeded(30)
	errors := map[api.Errno]int{}
	for range 2000 {
		b, c, p := some(r, 10), some(r, 3), path(r)
		got, e := space.Under(b.space(), p)
		makes(t, "Under "+p+" of "+told(b.space()), got, e, b.under(p).space(), api.OK)
		if r.IntN(3) == 0 {
			c = b.under(p)
		}
		want, wanted := b.into(p, c)
		got, e = space.Into(b.space(), p, c.space())
		makes(t, "Into "+p+" of "+told(b.space())+" "+told(c.space()), got, e, want.space(), wanted)
		errors[e]++
	}
	if len(errors) != 3 || errors[api.OK] < 100 || errors[api.ErrForm] < 100 || errors[api.ErrTwice] < 100 {
		t.Error(errors)
	}
}

// P7.4: Under by hand, and the chapter's example 3.
func TestUnderByHand(t *testing.T) {
	s := both(terms("a", 9, "a.a", 1, "a.a.a", 2, "a.b", 3, "aa.b", 4, "b.a.a", 5), types("a.b", 6, "a.b.c.d.e", 7, "ab.b", 8))
	for path, want := range map[string]api.Space{
		"a": both(terms("a", 1, "a.a", 2, "b", 3), types("b", 6, "b.c.d.e", 7)), "a.a": terms("a", 2), "aa": terms("b", 4), "ab": types("b", 8), "b": terms("a.a", 5), "a.b": types("c.d.e", 7),
		"a.b.c.d": types("e", 7), "a.b.c.d.e": {}, "b.a.a": {}, "c": {}, "a.a.a": {}, longest: {},
	} {
		got, e := space.Under(s, path)
		makes(t, path, got, e, want, api.OK)
	}
	// Rising paths rise without what they begin with.
	got, e := space.Under(terms("m.a", 1, "m.a.z", 2, "m.aa", 3, "m.b", 4), "m")
	makes(t, "m", got, e, terms("a", 1, "a.z", 2, "aa", 3, "b", 4), api.OK)
	s = terms("a.b", 1, "a.b.c", 2, "ab", 3)
	part, e := space.Under(s, "a")
	makes(t, "example", part, e, terms("b", 1, "b.c", 2), api.OK)
	got, e = space.Into(s, "d", part)
	makes(t, "example", got, e, terms("a.b", 1, "a.b.c", 2, "ab", 3, "d.b", 1, "d.b.c", 2), api.OK)
	got, e = space.Into(s, "a", part)
	makes(t, "example", got, e, api.Space{}, api.ErrTwice)
}

// P7.4: the errors of Into, each of both lists before the next one.
func TestIntoErrors(t *testing.T) {
	full, room := many("m", space.MaxEntries), many("m", space.MaxEntries-1)
	for i, y := range []struct {
		s    api.Space
		path string
		t    api.Space
		e    api.Errno
	}{
		{api.Space{}, "a", api.Space{}, api.OK}, {api.Space{}, "a.b.c.d", terms("e", 1), api.OK}, {api.Space{}, "a.b.c.d.e", api.Space{}, api.OK}, {terms("a", 1), "a", terms("a", 1), api.OK},
		{api.Space{}, "a.b.c.d.e", terms("f", 1), api.ErrForm}, {api.Space{}, "a.b.c.d", types("e.f", 1), api.ErrForm}, {api.Space{}, "a", types("a", 1, "b.c.d.e.f", 1), api.ErrForm},
		// An entry of the other list does not stand in the way.
		{types("a.b", 1), "a", terms("b", 1), api.OK}, {terms("a.b", 1), "a", types("b", 1), api.OK},
		{terms("a.b", 1), "a", terms("b", 1), api.ErrTwice}, {terms("a.b", 1), "a", terms("b", 2), api.ErrTwice}, {types("a.b", 1), "a", both(terms("b", 1), types("a", 1, "b", 2)), api.ErrTwice},
		{terms("a.b", 1), "a", both(terms("b", 1), types("b.c.d.e.f", 2)), api.ErrForm}, {types("a.b", 1), "a", both(terms("b.c.d.e.f", 1), types("b", 2)), api.ErrForm}, {both(terms("a.b", 1), types("a.b", 1)), "a", both(terms("b", 1), types("b", 2)), api.ErrTwice},
		{api.Space{Terms: full}, "a", terms("b", 1), api.ErrFull}, {api.Space{Types: full}, "a", types("b", 1), api.ErrFull}, {api.Space{Terms: full}, "a", types("b", 1), api.OK}, {api.Space{Terms: room, Types: full}, "a", terms("b", 1), api.OK}, {api.Space{Terms: room}, "a", terms("b", 1, "c", 1), api.ErrFull},
		{api.Space{Terms: full}, "m", terms("eaa", 1), api.ErrTwice}, {api.Space{Terms: full, Types: entries("a.b", 1)}, "a", both(terms("b", 1), types("b", 1)), api.ErrTwice}, {api.Space{Terms: full, Types: entries("a.b", 1)}, "a", both(terms("b", 1), types("b.c.d.e.f", 1)), api.ErrForm},
		{api.Space{Terms: room}, "m.m.m", api.Space{Terms: full}, api.ErrFull}, {api.Space{Types: full}, "m", api.Space{Terms: full}, api.OK}, {terms("a", 1), "b", api.Space{Terms: full}, api.ErrFull}, {terms("a", 1), "b", api.Space{Terms: room}, api.OK},
	} {
		got, e := space.Into(y.s, y.path, y.t)
		if e != y.e || e != api.OK && !isZero(got) {
			t.Errorf("%d: Into %s: %d; want %d", i, y.path, e, y.e)
		}
	}
}
