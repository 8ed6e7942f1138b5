package space_test

import (
	"slices"
	"strings"
	"testing"

	"hoarstone/api"
	"hoarstone/space"
)

// wrong are namespaces that are not right, with their errors.
func wrong() map[api.Errno][]api.Space {
	long, forms, orders := many("a", space.MaxEntries+1), [][]api.Entry{}, [][]api.Entry{entries("b", 1, "a", 1), entries("a", 1, "a", 1), entries("a", 1, "a", 2), entries("a", 1, "c", 2, "b", 3), entries("a.b", 1, "a", 2), entries("ab", 1, "a.b", 2)}
	for _, path := range wrongPaths {
		forms = append(forms, entries(path, 1), entries("a", 1, path, 2), entries("c", 1, "a", 2, path, 3))
	}
	forms = append(forms, entries("a", 1, "", 2, "a", 3), slices.Insert(many("a", 299), 100, entries("X", 1)...))
	fulls := [][]api.Entry{long, append(many("b", space.MaxEntries), entries("a", 1)...), append(many("b", space.MaxEntries), entries("A", 1)...), append(long, long...)}
	all := map[api.Errno][]api.Space{}
	for e, lists := range map[api.Errno][][]api.Entry{api.ErrFull: fulls, api.ErrForm: forms, api.ErrOrder: orders} {
		for _, l := range lists {
			all[e] = append(all[e], api.Space{Terms: l}, api.Space{Types: l}, api.Space{Terms: l, Types: entries("a", 1)}, api.Space{Terms: entries("b", 1), Types: l})
			// Terms decide before Types.
			all[e] = append(all[e], api.Space{Terms: l, Types: fulls[0]}, api.Space{Terms: l, Types: forms[0]}, api.Space{Terms: l, Types: orders[0]})
		}
	}
	return all
}

// P7.1: which namespaces are right, and the errors of others, list by list, in their order.
func TestCheck(t *testing.T) {
	for e, l := range wrong() {
		for _, s := range l {
			same(t, told(s), 0, space.Check(s), 0, e)
		}
	}
	full := many("a", space.MaxEntries)
	for _, s := range []api.Space{{}, terms("a", 0), types("a", 0), both(terms("a", 1, "b", 1), types("a", 2)), {Terms: full}, {Types: full}, {Terms: full, Types: full}, {Terms: []api.Entry{}, Types: []api.Entry{}}, terms("a", 1, "a.a", 1, "aa", 1, "ab", 1, "b", 1), terms(longest, 1)} {
		same(t, told(s), 0, space.Check(s), 0, api.OK)
	}
	r := seeded(1)
	for range 300 {
		s := some(r, 20).space()
		same(t, told(s), 0, space.Check(s), 0, api.OK)
	}
}

// P7.1: the words of paths, and what is no path.
func TestPath(t *testing.T) {
	for _, text := range []string{"a", "z", "abcdefghij", "qrstuvwxyz", "a.b", "map.map", "a.b.c.d.e", longest, "abcdefghij.a"} {
		l, e := space.Path(text)
		tells(t, text, l, e, words(text), api.OK)
	}
	for _, text := range wrongPaths {
		l, e := space.Path(text)
		tells(t, text[:min(len(text), 80)], l, e, nil, api.ErrForm)
	}
}

// P7.1: of all texts of few bytes just those are paths that have letters, and dots between words.
func TestAllShortTexts(t *testing.T) {
	letter := func(b byte) bool { return strings.IndexByte("abcdefghijklmnopqrstuvwxyz", b) >= 0 }
	for a := range 256 {
		for b := range 256 {
			one, two := string([]byte{byte(a)}), string([]byte{byte(a), byte(b)})
			if _, e := space.Path(one); (e == api.OK) != letter(byte(a)) {
				t.Errorf("%q: %d", one, e)
			}
			if _, e := space.Path(two); (e == api.OK) != (letter(byte(a)) && letter(byte(b))) {
				t.Errorf("%q: %d", two, e)
			}
		}
	}
	// Texts of up to six of these signs.
	signs := "az.B"
	texts := []string{""}
	for from := 0; len(texts) < 5000; {
		to := len(texts)
		for _, text := range texts[from:to] {
			for _, sign := range signs {
				texts = append(texts, text+string(sign))
			}
		}
		from = to
	}
	for _, text := range texts {
		right := text != "" && text[0] != '.' && text[len(text)-1] != '.' && !strings.Contains(text, "..") && !strings.Contains(text, "B")
		if l, e := space.Path(text); (e == api.OK) != right || right && !slices.Equal(l, words(text)) {
			t.Errorf("%q: %q, %d", text, l, e)
		}
	}
}

// P7.1: words of each length, and paths of each number of words.
func TestPathLimits(t *testing.T) {
	for n := range 15 {
		_, e := space.Path(strings.Repeat("w", n))
		if (e == api.OK) != (n >= 1 && n <= api.MaxName) {
			t.Error("letters", n, e)
		}
		_, e = space.Path(strings.Join(slices.Repeat([]string{"w"}, n), "."))
		if (e == api.OK) != (n >= 1 && n <= space.MaxWords) {
			t.Error("words", n, e)
		}
	}
}

// P7.1: namespaces are the same if they have the same entries.
func TestSame(t *testing.T) {
	r := seeded(2)
	for range 500 {
		b := some(r, 6)
		c := near(r, b)
		want := len(b.diff(c)) == 0
		s, u := b.space(), c.space()
		if space.Same(s, u) != want || space.Same(u, s) != want || !space.Same(s, b.space()) {
			t.Error(told(s), told(u), want)
		}
	}
	full := api.Space{Terms: many("a", 300), Types: many("a", 300)}
	other := api.Space{Terms: many("a", 300), Types: many("a", 300)}
	if !space.Same(full, other) || !space.Same(api.Space{}, api.Space{Terms: []api.Entry{}, Types: []api.Entry{}}) {
		t.Error("the same")
	}
	other.Types[299].Sum[31]++
	for _, y := range [][2]api.Space{{full, other}, {terms("a", 0), {}}, {terms("a", 0), types("a", 0)}, {terms("a", 1), terms("a", 2)}, {terms("a", 1), terms("b", 1)}, {terms("a", 1, "b", 1), terms("a", 1)}, {types("a", 1), types("a", 1, "b", 2)}} {
		if space.Same(y[0], y[1]) || space.Same(y[1], y[0]) {
			t.Error(told(y[0]), told(y[1]))
		}
	}
}

// call is a function with all that is passed in besides a namespace.
type call struct {
	what string
	of   func(s api.Space) (any, api.Errno)
}

// called returns a call of a function.
func called[T any](what string, of func(s api.Space) (T, api.Errno)) call {
	return call{what, func(s api.Space) (any, api.Errno) {
		y, e := of(s)
		return y, e
	}}
}

// calls are the functions that have a kind, with it, and with a path.
func calls(kind int, path string) []call {
	return []call{
		called("Add", func(s api.Space) (api.Space, api.Errno) { return space.Add(s, kind, path, x(1)) }),
		called("Set", func(s api.Space) (api.Space, api.Errno) { return space.Set(s, kind, path, x(1)) }),
		called("Drop", func(s api.Space) (api.Space, api.Errno) { return space.Drop(s, kind, path) }),
		called("Move", func(s api.Space) (api.Space, api.Errno) { return space.Move(s, kind, path, "no.such") }),
		called("Move to", func(s api.Space) (api.Space, api.Errno) { return space.Move(s, kind, "no.such", path) }),
		called("Find", func(s api.Space) ([]api.Entry, api.Errno) { return space.Find(s, kind, path) }),
		called("Plain", func(s api.Space) (api.Sum, api.Errno) { return space.Plain(s, kind, path) }),
	}
}

// namings are the functions that have a kind, and no path.
func namings(kind int) []call {
	return []call{
		called("Names", func(s api.Space) ([]string, api.Errno) { return space.Names(s, kind, x(9)) }),
		called("Name", func(s api.Space) (string, api.Errno) { return space.Name(s, kind, x(9)) }),
	}
}

// wholes are the functions that have no kind, with a path, and another namespace.
func wholes(path string, t api.Space) []call {
	return []call{
		called("Under", func(s api.Space) (api.Space, api.Errno) { return space.Under(s, path) }),
		called("Into", func(s api.Space) (api.Space, api.Errno) { return space.Into(s, path, t) }),
		called("Root", space.Root),
		called("Diff", func(s api.Space) ([]space.Change, api.Errno) { return space.Diff(s, t) }),
		called("Apply", func(s api.Space) (api.Space, api.Errno) { return space.Apply(s, []space.Change{{Kind: 9, Path: path}}) }),
	}
}

// isZero reports whether a result is zero, if one list of it may be empty instead of nil.
func isZero(y any) bool {
	switch y := y.(type) {
	case api.Space:
		return len(y.Terms) == 0 && len(y.Types) == 0
	case []api.Entry:
		return len(y) == 0
	case []space.Change:
		return len(y) == 0
	case []string:
		return len(y) == 0
	case api.Sum:
		return y == api.Sum{}
	case string:
		return y == ""
	}
	return false
}

// fails tells a test if a call does not return just an error.
func fails(t *testing.T, c call, s api.Space, want api.Errno) {
	t.Helper()
	if y, e := c.of(s); e != want || !isZero(y) {
		t.Errorf("%s of %s: %.100v, %d; want %d", c.what, told(s), y, e, want)
	}
}

// P7.1, R1, R2: all functions return the error of the namespace first, then that of a second one, of the kind, and of the paths.
func TestErrorsInOrder(t *testing.T) {
	good := terms("a", 1, "b", 2)
	for e, l := range wrong() {
		// The error of the other namespace is another one.
		other := types("b", 1, "a", 1)
		if e == api.ErrOrder {
			other = types("A", 1)
		}
		for _, s := range l {
			for _, c := range slices.Concat(calls(9, "A"), calls(api.OfTerm, "a"), namings(9), namings(api.OfType), wholes("A", other), wholes("z", good)) {
				fails(t, c, s, e)
			}
			into := called("Into", func(first api.Space) (api.Space, api.Errno) { return space.Into(first, "A", s) })
			diff := called("Diff", func(first api.Space) ([]space.Change, api.Errno) { return space.Diff(first, s) })
			fails(t, into, good, e)
			fails(t, diff, good, e)
			fails(t, into, other, space.Check(other))
			fails(t, diff, other, space.Check(other))
		}
	}
	for _, kind := range wrongKinds {
		for _, c := range slices.Concat(calls(kind, "A"), calls(kind, "a"), namings(kind)) {
			fails(t, c, good, api.ErrRange)
		}
	}
	for _, path := range wrongPaths {
		for _, c := range slices.Concat(calls(api.OfTerm, path), calls(api.OfType, path), wholes(path, good)[:2], wholes(path, api.Space{})[:2]) {
			fails(t, c, good, api.ErrForm)
		}
	}
	for _, c := range slices.Concat(calls(api.OfTerm, "no")[1:], calls(api.OfType, "a")[1:], namings(api.OfTerm), namings(api.OfType)) {
		fails(t, c, good, api.ErrNone)
	}
}
