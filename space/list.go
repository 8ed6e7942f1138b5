package space

import (
	"slices"
	"strings"

	"hoarstone/api"
)

// list is the entries of one kind.
type list []api.Entry

// work is a namespace at work.
type work struct{ api.Space }

// opened returns a namespace at work whose lists are its own, so that they can be changed.
func opened(s api.Space) *work {
	return &work{api.Space{Terms: slices.Clone(s.Terms), Types: slices.Clone(s.Types)}}
}

// of returns the list of a kind.
func (w *work) of(kind int) *list {
	lists := [2]*[]api.Entry{&w.Terms, &w.Types}
	return (*list)(lists[kind-api.OfTerm])
}

// check returns the error of a list.
func (l list) check() api.Errno {
	switch {
	case l.isLong():
		return api.ErrFull
	case !l.hasPaths():
		return api.ErrForm
	case !l.rises():
		return api.ErrOrder
	}
	return api.OK
}

// isLong reports whether a list has too many entries.
func (l list) isLong() bool { return len(l) > MaxEntries }

// hasPaths reports whether all Paths of a list are paths.
func (l list) hasPaths() bool {
	return !slices.ContainsFunc(l, func(x api.Entry) bool { return checkPaths(x.Path) != api.OK })
}

// rises reports whether each entry of a list comes behind the one before it.
func (l list) rises() bool {
	for i := 1; i < len(l); i++ {
		if l[i-1].Path >= l[i].Path {
			return false
		}
	}
	return true
}

// get returns the digest of a path, and whether it has one.
func (l list) get(path string) (api.Sum, bool) {
	i, is := l.place(path)
	if !is {
		return api.Sum{}, false
	}
	return l[i].Sum, true
}

// put gives a path a digest.
func (l *list) put(path string, x api.Sum) {
	i, is := l.place(path)
	if !is {
		*l = slices.Insert(*l, i, api.Entry{Path: path})
	}
	(*l)[i].Sum = x
}

// drop takes out a path that is there.
func (l *list) drop(path string) {
	i, _ := l.place(path)
	*l = slices.Delete(*l, i, i+1)
}

// place returns the index of a path, or the one that it would have, and whether it is there.
func (l list) place(path string) (int, bool) {
	return place(l, path, func(x api.Entry) string { return x.Path })
}

// place returns the index of the element of a rising list that has a text, or the one that such an element would have, and whether there is one.
func place[T any](l []T, text string, textOf func(x T) string) (int, bool) {
	return slices.BinarySearchFunc(l, text, func(x T, text string) int { return strings.Compare(textOf(x), text) })
}
