package term

import (
	"maps"
	"slices"

	"hoarstone/api"
)

// Free returns the numbers of the free variables.
func Free(t api.Term) ([]int, api.Errno) {
	if e := check(t); e != api.OK {
		return nil, e
	}
	numbers := map[int]bool{}
	for p := range within(t) {
		if n, free := p.free(); free {
			numbers[n] = true
		}
	}
	return slices.Sorted(maps.Keys(numbers)), api.OK
}

// Shift returns a term whose free variables from one on have other numbers.
func Shift(t api.Term, by, from int) (api.Term, api.Errno) {
	numbers, e := Free(t)
	switch {
	case e != api.OK:
		return api.Term{}, e
	case by < -MaxOpen || by > MaxOpen || from < 0 || from > MaxOpen:
		return api.Term{}, api.ErrRange
	case !all(numbers, func(n int) bool { return n < from || n+by >= from && n+by < MaxOpen }):
		return api.Term{}, api.ErrNot
	}
	return shifted(t, by, from), api.OK
}

// Subst returns a term with another one in the place of a free variable.
func Subst(t api.Term, n int, u api.Term) (api.Term, api.Errno) {
	if e := check(t, u); e != api.OK {
		return api.Term{}, e
	}
	if n < 0 || n >= MaxOpen {
		return api.Term{}, api.ErrRange
	}
	c := change{variable: func(v place) {
		number, free := v.free()
		switch {
		case free && number == n:
			*v.Term = shifted(u, v.bound, 0)
		case free && number > n:
			v.Num--
		}
	}}
	return short(c.of(place{Term: &t}))
}

// shifted returns a term whose free variables from one on have numbers that are so much greater.
func shifted(t api.Term, by, from int) api.Term {
	c := change{variable: func(v place) {
		if number, free := v.free(); free && number >= from {
			v.Num += by
		}
	}}
	return c.of(place{Term: &t})
}

// short returns what was made, unless it is too long.
func short(t api.Term) (api.Term, api.Errno) {
	if long(t) {
		return api.Term{}, api.ErrLong
	}
	return t, api.OK
}
