package decl

import (
	"slices"

	"hoarstone/api"
)

// given says which arguments of a data type are inhabited.
type given [api.MaxParam]bool

// search is a search for values, in rounds: with which arguments data types have values, as far as it was found, and with which ones they were asked for in this round.
type search struct {
	known
	found, asked map[api.Sum][]given
	grown        bool
}

// Inhabited reports whether a type has a value.
func Inhabited(w api.World, t api.Type) (bool, api.Errno) {
	k, e := opened(w)
	if e == api.OK {
		e = scope{k, MaxVar, MaxVar}.check(t)
	}
	if e != api.OK {
		return false, e
	}
	s := search{known: k, found: map[api.Sum][]given{}}
	return s.finds(t), api.OK
}

// finds reports whether a type has a value, if all variables have one.
func (s *search) finds(t api.Type) bool {
rounds:
	for {
		s.asked, s.grown = map[api.Sum][]given{}, false
		is := s.has(t, func(int) bool { return true })
		switch {
		case is:
			return true
		case !s.grown:
			break rounds
		}
		// What was found late in a round may be what was missing before.
	}
	return false
}

// has reports whether a type is found to have a value, if it is told which variables have one.
func (s *search) has(t api.Type, variable func(n int) bool) bool {
	switch t.Kind {
	case api.TVar:
		return variable(t.Num)
	case api.TData:
		var g given
		for i, kid := range t.Kids {
			g[i] = s.has(kid, variable)
		}
		return s.made(t.Ref, g)
	}
	return true
}

// made reports whether a data type is found to have a value, if it is told which arguments have one. What is asked for within its own answer has none yet.
func (s *search) made(ref api.Sum, g given) bool {
	switch {
	case slices.Contains(s.found[ref], g):
		return true
	case slices.Contains(s.asked[ref], g):
		return false
	}
	s.asked[ref] = append(s.asked[ref], g)
	empty := func(field api.Type) bool {
		return !s.has(field, func(n int) bool { return g[n] })
	}
	full := func(fields []api.Type) bool { return !slices.ContainsFunc(fields, empty) }
	if !slices.ContainsFunc(s.datas[ref].Cons, full) {
		return false
	}
	s.found[ref] = append(s.found[ref], g)
	s.grown = true
	return true
}
