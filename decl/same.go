package decl

import (
	"slices"

	"hoarstone/api"
)

// pair tells two lists that are compared: where they begin, and how many types both have.
type pair struct {
	a, b *api.Type
	many int
}

// twins is the lists that are being compared, or were.
type twins map[pair]bool

// SameType reports whether two types are the same, field by field.
func SameType(t, u api.Type) bool { return twins{}.same(t, u) }

// same reports whether two types are the same.
func (m twins) same(t, u api.Type) bool { return alike(t, u) && m.lists(t.Kids, u.Kids) }

// lists reports whether two lists of the same length are the same, but for what was found, or will be, of lists that were met. (So comparing ends, even if a type is in itself.)
func (m twins) lists(a, b []api.Type) bool {
	if len(a) == 0 {
		return true
	}
	here := pair{&a[0], &b[0], len(a)}
	if m[here] {
		return true
	}
	m[here] = true
	for i := range len(a) {
		if !m.same(a[i], b[i]) {
			return false
		}
	}
	return true
}

// alike reports whether two types are the same but for what their Kids are.
func alike(t, u api.Type) bool {
	return t.Kind == u.Kind && t.Num == u.Num && t.Ref == u.Ref && len(t.Kids) == len(u.Kids) && endOf(t.Row) == endOf(u.Row) && slices.Equal(t.Row.List, u.Row.List)
}

// same reports whether two types that are not in themselves are the same.
func same(t, u api.Type) bool { return alike(t, u) && slices.EqualFunc(t.Kids, u.Kids, same) }

// sameDatas reports whether two declarations are the same.
func sameDatas(d, o api.Data) bool {
	sameCons := func(a, b []api.Type) bool { return slices.EqualFunc(a, b, same) }
	return d.Unique == o.Unique && d.Params == o.Params && slices.EqualFunc(d.Cons, o.Cons, sameCons)
}
