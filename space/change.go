package space

import (
	"cmp"

	"hoarstone/api"
)

// edit is a change of the list of a kind: what it does to the list, with the error for which it can't.
type edit struct {
	kind int
	do   func(l *list) api.Errno
}

// Add returns the namespace with an entry more.
func Add(s api.Space, kind int, path string, x api.Sum) (api.Space, api.Errno) {
	return edit{kind, func(l *list) api.Errno {
		_, is := l.get(path)
		switch {
		case is:
			return api.ErrTwice
		case len(*l) == MaxEntries:
			return api.ErrFull
		}
		l.put(path, x)
		return api.OK
	}}.of(s, path)
}

// Set returns the namespace in which a path has another digest.
func Set(s api.Space, kind int, path string, x api.Sum) (api.Space, api.Errno) {
	return edit{kind, func(l *list) api.Errno {
		if _, is := l.get(path); !is {
			return api.ErrNone
		}
		l.put(path, x)
		return api.OK
	}}.of(s, path)
}

// Drop returns the namespace without a path.
func Drop(s api.Space, kind int, path string) (api.Space, api.Errno) {
	return edit{kind, func(l *list) api.Errno {
		if _, is := l.get(path); !is {
			return api.ErrNone
		}
		l.drop(path)
		return api.OK
	}}.of(s, path)
}

// Move returns the namespace in which an entry has another path.
func Move(s api.Space, kind int, from, to string) (api.Space, api.Errno) {
	return edit{kind, func(l *list) api.Errno {
		x, is := l.get(from)
		if !is {
			return api.ErrNone
		}
		if _, is := l.get(to); is {
			return api.ErrTwice
		}
		l.drop(from)
		l.put(to, x)
		return api.OK
	}}.of(s, from, to)
}

// of returns the namespace behind an edit, to which paths were passed in.
func (d edit) of(s api.Space, paths ...string) (api.Space, api.Errno) {
	if e := cmp.Or(Check(s), checkKind(d.kind), checkPaths(paths...)); e != api.OK {
		return api.Space{}, e
	}
	w := opened(s)
	if e := d.do(w.of(d.kind)); e != api.OK {
		return api.Space{}, e
	}
	return w.Space, api.OK
}
