package trie

import (
	"slices"
	"strings"

	"hoarstone/api"
)

// Below returns the map of what begins with a text.
func Below(m Map, begin string) (Map, api.Errno) {
	for left, n := range m.way(begin) {
		if strings.HasPrefix(n.Stem, left) {
			below := *n
			below.Stem = n.Stem[len(left):]
			return Map{below.whole()}, api.OK
		}
	}
	return Map{}, api.ErrNone
}

// Union returns the names of both maps.
func Union(a, b Map) (Map, api.Errno) {
	var l []entry
	for name, x := range a.all() {
		if _, is := b.get(name); is {
			return Map{}, api.ErrTwice
		}
		l = append(l, entry{name, x})
	}
	for name, x := range b.all() {
		l = append(l, entry{name, x})
	}
	if len(l) > MaxNames {
		return Map{}, api.ErrFull
	}
	return Map{parted(l)}, api.OK
}

// Diff returns what differs.
func Diff(a, b Map) []Change {
	names := slices.Concat(Names(a), Names(b))
	slices.Sort(names)
	var l []Change
	for _, name := range slices.Compact(names) {
		old, had := a.get(name)
		now, has := b.get(name)
		if had != has || old != now {
			l = append(l, Change{Name: name, Had: had, Has: has, Old: old, New: now})
		}
	}
	return l
}

// Apply returns the map behind changes.
func Apply(m Map, l []Change) (Map, api.Errno) {
	for _, c := range l {
		if e := m.check(c); e != api.OK {
			return Map{}, e
		}
		if c.Has {
			m = m.with(c.Name, c.New)
		} else {
			m = m.without(c.Name)
		}
	}
	return m, api.OK
}

// check returns the error of a change of a map.
func (m Map) check(c Change) api.Errno {
	if c != c.bare() || !c.Had && !c.Has {
		return api.ErrForm
	}
	if len(c.Name) > MaxKey {
		return api.ErrLong
	}
	here := c
	here.Old, here.Had = m.get(c.Name)
	if c != here {
		return api.ErrClash
	}
	if !c.Had && Many(m) == MaxNames {
		return api.ErrFull
	}
	return api.OK
}

// bare returns a change without the digests that nothing has.
func (c Change) bare() Change {
	if !c.Had {
		c.Old = api.Sum{}
	}
	if !c.Has {
		c.New = api.Sum{}
	}
	return c
}
