package space

import (
	"cmp"
	"slices"

	"hoarstone/api"
	"hoarstone/sum"
	"hoarstone/trie"
)

// Root returns the root of a namespace.
func Root(s api.Space) (api.Sum, api.Errno) {
	if e := Check(s); e != api.OK {
		return api.Sum{}, e
	}
	return sum.List([]api.Sum{list(s.Terms).root(), list(s.Types).root()}), api.OK
}

// Diff returns what differs.
func Diff(s, t api.Space) ([]Change, api.Errno) {
	if e := cmp.Or(Check(s), Check(t)); e != api.OK {
		return nil, e
	}
	return slices.Concat(diff(api.OfTerm, s.Terms, t.Terms), diff(api.OfType, s.Types, t.Types)), api.OK
}

// Apply returns the namespace behind changes.
func Apply(s api.Space, l []Change) (api.Space, api.Errno) {
	if e := Check(s); e != api.OK {
		return api.Space{}, e
	}
	w := opened(s)
	for _, c := range l {
		if e := w.apply(c); e != api.OK {
			return api.Space{}, e
		}
	}
	return w.Space, api.OK
}

// root returns the root of the map of a right list.
func (l list) root() api.Sum {
	var names []string
	var sums []api.Sum
	for _, x := range l {
		names, sums = append(names, x.Path), append(sums, x.Sum)
	}
	// Paths are shorter than names of maps may be, and a list has fewer of them.
	m, _ := trie.From(names, sums)
	return trie.Root(m)
}

// diff returns what differs in two right lists of a kind.
func diff(kind int, old, now list) []Change {
	var paths []string
	for _, x := range slices.Concat(old, now) {
		paths = append(paths, x.Path)
	}
	slices.Sort(paths)
	var l []Change
	for _, path := range slices.Compact(paths) {
		c := Change{Kind: kind, Path: path}
		c.Old, c.Had = old.get(path)
		c.New, c.Has = now.get(path)
		if c.Had != c.Has || c.Old != c.New {
			l = append(l, c)
		}
	}
	return l
}

// apply does a change, or returns its error.
func (w *work) apply(c Change) api.Errno {
	if e := cmp.Or(checkKind(c.Kind), c.check()); e != api.OK {
		return e
	}
	l := w.of(c.Kind)
	old, had := l.get(c.Path)
	switch {
	case had != c.Had || old != c.Old:
		return api.ErrClash
	case !c.Had && len(*l) == MaxEntries:
		return api.ErrFull
	case c.Has:
		l.put(c.Path, c.New)
	default:
		l.drop(c.Path)
	}
	return api.OK
}

// check returns the error of what a change says, whatever namespace it is for.
func (c Change) check() api.Errno {
	none := api.Sum{}
	if !c.Had && !c.Has || !c.Had && c.Old != none || !c.Has && c.New != none {
		return api.ErrForm
	}
	return checkPaths(c.Path)
}
