package trie

import "hoarstone/api"

// source is bytes that are read, and how many of them were.
type source struct {
	all []byte
	at  int
}

// reader reads a map: the names that were read, and what is wrong, and where.
type reader struct {
	source
	names []entry
	wrong api.Errno
	where int
}

// Encode returns the bytes of a map.
func Encode(m Map) []byte {
	many := length(Many(m))
	b := joined(many[:])
	for name, x := range m.all() {
		b = append(b, joined([]byte{byte(len(name))}, []byte(name), x[:])...)
	}
	return b
}

// Decode returns the map of bytes.
func Decode(b []byte) (Map, int, api.Errno) {
	r := reader{source: source{all: b}}
	if !r.whole() {
		return Map{}, r.where, r.wrong
	}
	return Map{parted(r.names)}, 0, api.OK
}

// take returns the next n bytes, and whether there are so many.
func (s *source) take(n int) ([]byte, bool) {
	if n > len(s.all)-s.at {
		return nil, false
	}
	from := s.at
	s.at += n
	return s.all[from:s.at], true
}

// fail notes what is wrong, and where, and reports that something is.
func (r *reader) fail(e api.Errno, where int) bool {
	r.wrong, r.where = e, where
	return false
}

// whole reads the names of a map, with nothing behind them, and reports whether they are right.
func (r *reader) whole() bool {
	b, ok := r.take(len(length(0)))
	if !ok {
		return r.fail(api.ErrForm, len(r.all))
	}
	many := int(b[0])<<8 | int(b[1])
	if many > MaxNames {
		return r.fail(api.ErrFull, 0)
	}
	for range many {
		if !r.name() {
			return false
		}
	}
	if r.at < len(r.all) {
		return r.fail(api.ErrForm, r.at)
	}
	return true
}

// name reads a name and its digest, and reports whether they are right.
func (r *reader) name() bool {
	from := r.at
	b, ok := r.take(1)
	if !ok {
		return r.fail(api.ErrForm, len(r.all))
	}
	long := int(b[0])
	if long > MaxKey {
		return r.fail(api.ErrLong, from)
	}
	b, ok = r.take(long + len(api.Sum{}))
	if !ok {
		return r.fail(api.ErrForm, len(r.all))
	}
	x := entry{string(b[:long]), api.Sum(b[long:])}
	if last := len(r.names) - 1; last >= 0 && x.name <= r.names[last].name {
		return r.fail(api.ErrOrder, from+1)
	}
	r.names = append(r.names, x)
	return true
}
