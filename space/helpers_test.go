package space_test

import (
	"maps"
	"math/rand/v2"
	"slices"
	"strconv"
	"strings"
	"testing"

	"hoarstone/api"
	"hoarstone/space"
)

// longest is the longest path.
const longest = "abcdefghij.klmnopqrst.uvwxyzabcd.efghijklmn.opqrstuvwx"

// x returns a digest; that of 0 is zero.
func x(n int) api.Sum { return api.Sum{byte(n), 31: byte(n >> 8)} }

// book is the entries of one list by their paths, in which texts are looked up in the plainest way that the chapter's words allow.
type book map[string]api.Sum

// books is both lists of a namespace.
type books [2]book

// kinds are the kinds of both lists, in order.
var kinds = [2]int{api.OfTerm, api.OfType}

// wrongKinds are no kinds.
var wrongKinds = []int{0, 3, -1, 1 << 40}

// wrongPaths are no paths.
var wrongPaths = []string{"", ".", "..", "a.", ".a", "a..b", "A", "aB", "a.B", "a1", "a b", " a", "a\n", "é", "aé", "\xff", "a\xffb", "`", "{", "\x00", "abcdefghijk", "a.abcdefghijk", "abcdefghijk.a", "a.b.c.d.e.f", "a.b.c.d.e.", ".a.b.c.d.e", longest + ".a", strings.Repeat("a", 70000), strings.Repeat("a.", 70000), strings.Repeat(".", 70000)}

// words returns the words of a path.
func words(path string) []string { return strings.Split(path, ".") }

// endsOf returns the ends of a path.
func endsOf(path string) []string {
	var l []string
	all := words(path)
	for n := range all {
		l = append(l, strings.Join(all[len(all)-1-n:], "."))
	}
	return l
}

// paths returns the paths, rising.
func (b book) paths() []string { return slices.Sorted(maps.Keys(b)) }

// entries returns the entries, rising.
func (b book) entries() []api.Entry {
	var l []api.Entry
	for _, path := range b.paths() {
		l = append(l, api.Entry{Path: path, Sum: b[path]})
	}
	return l
}

// meant returns the entries that a text means.
func (b book) meant(text string) []api.Entry {
	if x, is := b[text]; is {
		return []api.Entry{{Path: text, Sum: x}}
	}
	return slices.DeleteFunc(b.entries(), func(y api.Entry) bool { return !slices.Contains(endsOf(y.Path), text) })
}

// plain returns the digest of a text, and whether it is plain.
func (b book) plain(text string) (api.Sum, bool) {
	met := map[api.Sum]bool{}
	for _, y := range b.meant(text) {
		met[y.Sum] = true
	}
	for x := range met {
		return x, len(met) == 1
	}
	return api.Sum{}, false
}

// ends returns all ends of all paths.
func (b book) ends() []string {
	var l []string
	for path := range b {
		l = append(l, endsOf(path)...)
	}
	slices.Sort(l)
	return slices.Compact(l)
}

// name returns the name of a digest.
func (b book) name(x api.Sum) (string, bool) {
	var good []string
	for path, y := range b {
		for _, end := range endsOf(path) {
			if z, is := b.plain(end); y == x && is && z == x {
				good = append(good, end)
			}
		}
	}
	for _, better := range []func(text string) int{func(text string) int { return len(words(text)) }, func(text string) int { return len(text) }} {
		least := 1 << 30
		for _, text := range good {
			least = min(least, better(text))
		}
		good = slices.DeleteFunc(good, func(text string) bool { return better(text) > least })
	}
	slices.Sort(good)
	if len(good) == 0 {
		return "", false
	}
	return good[0], true
}

// space returns the namespace of both lists.
func (b books) space() api.Space { return api.Space{Terms: b[0].entries(), Types: b[1].entries()} }

// copy returns books that can be changed.
func (b books) copy() books { return books{maps.Clone(b[0]), maps.Clone(b[1])} }

// diff returns the changes that lead to other books.
func (b books) diff(c books) []space.Change {
	var l []space.Change
	for i, kind := range kinds {
		both := maps.Clone(b[i])
		maps.Copy(both, c[i])
		for _, path := range both.paths() {
			y := space.Change{Kind: kind, Path: path}
			y.Old, y.Had = b[i][path]
			y.New, y.Has = c[i][path]
			if y.Had != y.Has || y.Old != y.New {
				l = append(l, y)
			}
		}
	}
	return l
}

// terms returns a namespace without types: paths, each with the number of its digest behind it.
func terms(l ...any) api.Space { return api.Space{Terms: entries(l...)} }

// types is terms for types.
func types(l ...any) api.Space { return api.Space{Types: entries(l...)} }

// entries returns a list as it is said.
func entries(l ...any) []api.Entry {
	var all []api.Entry
	for y := range slices.Chunk(l, 2) {
		all = append(all, api.Entry{Path: y[0].(string), Sum: x(y[1].(int))})
	}
	return all
}

// both returns the namespace of the terms of one, and of the types of another one.
func both(s, t api.Space) api.Space { return api.Space{Terms: s.Terms, Types: t.Types} }

// many returns so many entries, all below a path of at most two words, with unlike digests.
func many(below string, n int) []api.Entry {
	b := book{}
	for i := range n {
		b[below+".e"+string([]byte{'a' + byte(i/26), 'a' + byte(i%26)})] = x(i + 1)
	}
	return b.entries()
}

// seeded returns numbers that hang on the seed alone.
func seeded(n uint64) *rand.Rand { return rand.New(rand.NewPCG(n, 7)) }

// pick returns an element of a list.
func pick[T any](r *rand.Rand, l []T) T { return l[r.IntN(len(l))] }

// path returns a path of few words, so that ends of it are ends of others.
func path(r *rand.Rand) string {
	var l []string
	for range 1 + r.IntN(pick(r, []int{1, 2, 3, 5})) {
		l = append(l, pick(r, []string{"a", "b", "c", "ab", "zz", "abcdefghij"}))
	}
	return strings.Join(l, ".")
}

// digest returns one of few digests, of which one is zero.
func digest(r *rand.Rand) api.Sum { return x(r.IntN(4)) }

// some returns random books of at most so many paths each.
func some(r *rand.Rand, most int) books {
	b := books{{}, {}}
	for i := range b {
		for range r.IntN(most + 1) {
			b[i][path(r)] = digest(r)
		}
	}
	return b
}

// near returns books that differ from others in few paths, or in none.
func near(r *rand.Rand, b books) books {
	c := b.copy()
	for range r.IntN(4) {
		i := r.IntN(2)
		switch l := c[i].paths(); {
		case len(l) > 0 && r.IntN(2) == 0:
			delete(c[i], pick(r, l))
		case len(l) > 0 && r.IntN(2) == 0:
			c[i][pick(r, l)] = digest(r)
		default:
			c[i][path(r)] = digest(r)
		}
	}
	return c
}

// sameSpace reports whether two namespaces are the same.
func sameSpace(s, t api.Space) bool {
	return slices.Equal(s.Terms, t.Terms) && slices.Equal(s.Types, t.Types)
}

// told returns a namespace as a text.
func told(s api.Space) string {
	var b strings.Builder
	for i, l := range [][]api.Entry{s.Terms, s.Types} {
		b.WriteString([]string{"terms", " types"}[i])
		for k, y := range l {
			if k == 20 {
				b.WriteString(" ..")
				break
			}
			b.WriteString(" " + y.Path + ":" + strconv.Itoa(int(y.Sum[0])))
		}
	}
	return b.String()
}

// makes tells a test if a namespace, and an error, are not those that are wanted; with an error the namespace is to be empty.
func makes(t *testing.T, what string, s api.Space, e api.Errno, want api.Space, wanted api.Errno) {
	t.Helper()
	if wanted != api.OK {
		want = api.Space{}
	}
	if e != wanted || !sameSpace(s, want) {
		t.Errorf("%s: %s, %d; want %s, %d", what, told(s), e, told(want), wanted)
	}
}

// tells is makes for lists.
func tells[T comparable](t *testing.T, what string, l []T, e api.Errno, want []T, wanted api.Errno) {
	t.Helper()
	if wanted != api.OK {
		want = nil
	}
	if e != wanted || !slices.Equal(l, want) {
		t.Errorf("%s: %v, %d; want %v, %d", what, l, e, want, wanted)
	}
}

// same is makes for values.
func same[T comparable](t *testing.T, what string, y T, e api.Errno, want T, wanted api.Errno) {
	t.Helper()
	if wanted != api.OK {
		var zero T
		want = zero
	}
	if e != wanted || y != want {
		t.Errorf("%s: %v, %d; want %v, %d", what, y, e, want, wanted)
	}
}
