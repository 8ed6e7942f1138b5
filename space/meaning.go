package space

import (
	"cmp"
	"iter"
	"slices"
	"strings"

	"hoarstone/api"
)

// sought is a digest for which a name is sought, and the list in which it is.
type sought struct {
	sum api.Sum
	in  list
}

// Find returns the entries that a text means.
func Find(s api.Space, kind int, text string) ([]api.Entry, api.Errno) {
	l, e := listOf(s, kind, text)
	if e != api.OK {
		return nil, e
	}
	found := slices.Collect(l.meant(text))
	if len(found) == 0 {
		return nil, api.ErrNone
	}
	return found, api.OK
}

// Plain returns the digest that a text means.
func Plain(s api.Space, kind int, text string) (api.Sum, api.Errno) {
	l, e := listOf(s, kind, text)
	if e != api.OK {
		return api.Sum{}, e
	}
	return l.plain(text)
}

// Names returns the paths of a digest.
func Names(s api.Space, kind int, x api.Sum) ([]string, api.Errno) {
	l, e := listOf(s, kind)
	if e != api.OK {
		return nil, e
	}
	paths := l.pathsOf(x)
	if len(paths) == 0 {
		return nil, api.ErrNone
	}
	return paths, api.OK
}

// Name returns the name of a digest.
func Name(s api.Space, kind int, x api.Sum) (string, api.Errno) {
	paths, e := Names(s, kind, x)
	if e != api.OK {
		return "", e
	}
	w := work{s}
	return best(paths, sought{x, *w.of(kind)}.plain), api.OK
}

// listOf returns the list of a kind, or the error of the namespace, of the kind, or of paths that are passed in with them.
func listOf(s api.Space, kind int, paths ...string) (list, api.Errno) {
	if e := cmp.Or(Check(s), checkKind(kind), checkPaths(paths...)); e != api.OK {
		return nil, e
	}
	w := work{s}
	return *w.of(kind), api.OK
}

// ends yields the ends of a path, from its last word on.
func ends(path string) iter.Seq[string] {
	return func(yield func(string) bool) {
		for from := len(path); from > 0; {
			// In front of an end there is a dot, and in front of this the next word.
			from = strings.LastIndex(path[:from-1], dot) + 1
			if !yield(path[from:]) {
				return
			}
		}
	}
}

// meant yields the entries that a text means, rising.
func (l list) meant(text string) iter.Seq[api.Entry] {
	return func(yield func(api.Entry) bool) {
		if i, is := l.place(text); is {
			yield(l[i])
			return
		}
		for _, x := range l {
			for end := range ends(x.Path) {
				if end == text && !yield(x) {
					return
				}
			}
		}
	}
}

// plain returns the digest of a text that is plain.
func (l list) plain(text string) (api.Sum, api.Errno) {
	var x api.Sum
	e := api.ErrNone
	for found := range l.meant(text) {
		if e == api.OK && found.Sum != x {
			return api.Sum{}, api.ErrClash
		}
		x, e = found.Sum, api.OK
	}
	return x, e
}

// plain reports whether a text is plain, and means entries with the digest.
func (s sought) plain(text string) bool {
	x, e := s.in.plain(text)
	return e == api.OK && x == s.sum
}

// pathsOf returns the paths of a digest, rising.
func (l list) pathsOf(x api.Sum) []string {
	var paths []string
	for _, y := range l {
		if y.Sum == x {
			paths = append(paths, y.Path)
		}
	}
	return paths
}

// best returns the best name among the ends of paths, if a function tells which of them are plain.
func best(paths []string, plain func(text string) bool) string {
	// A path is always plain.
	name := paths[0]
	for _, path := range paths {
	search:
		for end := range ends(path) {
			switch {
			case compareNames(end, name) >= 0:
				// So are the longer ends of this path.
				break search
			case plain(end):
				name = end
				break search
			}
		}
	}
	return name
}

// compareNames tells which of two texts is the better name: it has fewer words; of as many words, fewer bytes; and of as many bytes, it comes first.
func compareNames(a, b string) int {
	return cmp.Or(cmp.Compare(strings.Count(a, dot), strings.Count(b, dot)), cmp.Compare(len(a), len(b)), strings.Compare(a, b))
}
