package decl

import (
	"iter"

	"hoarstone/api"
)

// within yields the types in a type, in order. It goes on without end if a type is in itself, unless the loop is left.
func within(t api.Type) iter.Seq[api.Type] {
	return func(yield func(api.Type) bool) {
		var walk func(t api.Type) bool
		walk = func(t api.Type) bool {
			if !yield(t) {
				return false
			}
			for _, kid := range t.Kids {
				if !walk(kid) {
					return false
				}
			}
			return true
		}
		walk(t)
	}
}

// fieldsOf yields the types of all fields, member by member, constructor by constructor.
func fieldsOf(group ...api.Data) iter.Seq[api.Type] {
	return func(yield func(api.Type) bool) {
		for _, d := range group {
			for _, con := range d.Cons {
				for _, field := range con {
					if !yield(field) {
						return
					}
				}
			}
		}
	}
}

// opTypes yields the types of an ability's operations.
func opTypes(a api.Ability) iter.Seq[api.Type] {
	return func(yield func(api.Type) bool) {
		for _, op := range a.Ops {
			if !yield(op.From) || !yield(op.To) {
				return
			}
		}
	}
}

// inAll yields the types in types, one type after the other.
func inAll(l iter.Seq[api.Type]) iter.Seq[api.Type] {
	return func(yield func(api.Type) bool) {
		for t := range l {
			for inner := range within(t) {
				if !yield(inner) {
					return
				}
			}
		}
	}
}

// find returns the first element that is so, and whether there is one.
func find[T any](l iter.Seq[T], so func(x T) bool) (T, bool) {
	for x := range l {
		if so(x) {
			return x, true
		}
	}
	var none T
	return none, false
}

// firstError returns the error of the first type that has one.
func firstError(l iter.Seq[api.Type], ask func(t api.Type) api.Errno) api.Errno {
	wrong, is := find(l, func(t api.Type) bool { return ask(t) != api.OK })
	if !is {
		return api.OK
	}
	return ask(wrong)
}

// exceeds reports whether there are more types than so many.
func exceeds(l iter.Seq[api.Type], most int) bool {
	many := 0
	_, is := find(l, func(api.Type) bool {
		many++
		return many > most
	})
	return is
}

// large reports whether too many types are in a type.
func large(t api.Type) bool { return exceeds(within(t), api.MaxType) }

// isSelf reports whether a type is a member of a group.
func isSelf(t api.Type) bool { return t.Kind == api.TSelf }

// each returns what becomes of each element of a list.
func each[T, U any](l []T, become func(x T) U) []U {
	var made []U
	for _, x := range l {
		made = append(made, become(x))
	}
	return made
}
