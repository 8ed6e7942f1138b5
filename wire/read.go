package wire

import "hoarstone/api"

// source is what is read: all of it, and how far it was read; of the item at work, how many items were begun, and the level of the one that is read; and what is wrong, and where.
type source struct {
	all   string
	at    int
	begun int
	level int
	wrong fault
}

// fault is an error and its index.
type fault struct {
	e  api.Errno
	at int
}

// part is a part of an item: the sign that it is there, and what reads it, and reports whether it is right.
type part struct {
	sign byte
	read func(x *api.Item) bool
}

// fail notes what is wrong, and where, and reports that something is.
func (s *source) fail(e api.Errno, at int) bool {
	s.wrong = fault{e, at}
	return false
}

// begin begins an item, and reports whether there may be one more.
func (s *source) begin() bool {
	switch {
	case s.level == MaxLevel:
		return s.fail(api.ErrLong, s.at)
	case s.begun == MaxItems:
		return s.fail(api.ErrMany, s.at)
	}
	s.level++
	s.begun++
	return true
}

// end ends the item that was begun last.
func (s *source) end() { s.level-- }

// whole reads an item, with nothing behind it.
func (s *source) whole(read func() (api.Item, bool)) (api.Item, int, api.Errno) {
	x, ok := read()
	if ok && s.at < len(s.all) {
		ok = s.fail(api.ErrForm, s.at)
	}
	if !ok {
		return api.Item{}, s.wrong.at, s.wrong.e
	}
	return x, 0, api.OK
}

// stream reads items, one behind the other.
func (s *source) stream(read func() (api.Item, bool)) ([]api.Item, int, api.Errno) {
	var l []api.Item
	for s.at < len(s.all) {
		s.begun = 0
		x, ok := read()
		if !ok {
			return nil, s.wrong.at, s.wrong.e
		}
		l = append(l, x)
	}
	return l, 0, api.OK
}
