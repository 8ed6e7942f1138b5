package space

import (
	"cmp"
	"slices"
	"strings"

	"hoarstone/api"
)

// Under returns the entries under a path.
func Under(s api.Space, path string) (api.Space, api.Errno) {
	if e := cmp.Or(Check(s), checkPaths(path)); e != api.OK {
		return api.Space{}, e
	}
	return api.Space{Terms: list(s.Terms).under(path), Types: list(s.Types).under(path)}, api.OK
}

// Into returns the namespace with another one under a path.
func Into(s api.Space, path string, t api.Space) (api.Space, api.Errno) {
	if e := cmp.Or(Check(s), Check(t), checkPaths(path)); e != api.OK {
		return api.Space{}, e
	}
	terms, types := list(s.Terms).with(path, t.Terms), list(s.Types).with(path, t.Types)
	switch {
	case !terms.hasPaths() || !types.hasPaths():
		return api.Space{}, api.ErrForm
	case !terms.rises() || !types.rises():
		return api.Space{}, api.ErrTwice
	case terms.isLong() || types.isLong():
		return api.Space{}, api.ErrFull
	}
	return api.Space{Terms: terms, Types: types}, api.OK
}

// under returns the entries whose paths begin with a path and a dot, without these.
func (l list) under(path string) list {
	begin := joined(path, "")
	var found list
	for _, x := range l {
		if rest, is := strings.CutPrefix(x.Path, begin); is {
			found = append(found, api.Entry{Path: rest, Sum: x.Sum})
		}
	}
	return found
}

// with returns the list with more entries, in front of whose paths a path is put. It rises, but for a path that comes twice.
func (l list) with(path string, more list) list {
	all := slices.Clone(l)
	for _, x := range more {
		all = append(all, api.Entry{Path: joined(path, x.Path), Sum: x.Sum})
	}
	slices.SortFunc(all, func(x, y api.Entry) int { return strings.Compare(x.Path, y.Path) })
	return all
}
