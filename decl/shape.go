package decl

import (
	"slices"

	"hoarstone/api"
	"hoarstone/sum"
)

// must is what the types of a kind must have; what is nil they do not have.
type must struct {
	num  func(n int) bool
	ref  bool
	kids func(many int) bool
	row  func(r api.Row) api.Errno
}

// end is a row without its List.
type end struct {
	open bool
	tail int
}

// member is a member of a group whose types are asked.
type member struct {
	api.Data
	group []api.Data
}

// Shape returns the error of a type that hangs on it alone.
func Shape(t api.Type) api.Errno {
	if large(t) {
		return api.ErrMany
	}
	return firstError(within(t), alone)
}

// ShapeDatas returns the error of a group of declarations that hangs on it alone.
func ShapeDatas(group []api.Data) api.Errno {
	if len(group) < 1 || len(group) > api.MaxGroup {
		return api.ErrMany
	}
	for _, d := range group {
		if e := (member{d, group}).shape(); e != api.OK {
			return e
		}
	}
	if exceeds(inAll(fieldsOf(group...)), MaxTypes) {
		return api.ErrMany
	}
	return api.OK
}

// ShapeAbility returns the error of an ability that hangs on it alone.
func ShapeAbility(a api.Ability) api.Errno {
	switch {
	case !isUnique(a.Unique):
		return api.ErrForm
	case len(a.Ops) > api.MaxCons:
		return api.ErrMany
	}
	return firstError(opTypes(a), shapeInOp)
}

// shapeInOp returns the error of a type of an operation.
func shapeInOp(t api.Type) api.Errno {
	if e := Shape(t); e != api.OK {
		return e
	}
	if _, is := find(within(t), func(t api.Type) bool { return t.Kind == api.TVar || isSelf(t) || t.Row.Open }); is {
		return api.ErrNot
	}
	return api.OK
}

// shape returns the error of a member.
func (m member) shape() api.Errno {
	switch {
	case !isUnique(m.Unique):
		return api.ErrForm
	case m.Params < 0 || m.Params > api.MaxParam:
		return api.ErrRange
	case len(m.Cons) > api.MaxCons:
		return api.ErrMany
	}
	for _, con := range m.Cons {
		if e := m.con(con); e != api.OK {
			return e
		}
	}
	return api.OK
}

// con returns the error of a constructor.
func (m member) con(fields []api.Type) api.Errno {
	if len(fields) > api.MaxKids {
		return api.ErrMany
	}
	for _, field := range fields {
		if e := Shape(field); e != api.OK {
			return e
		}
		if e := firstError(within(field), m.own); e != api.OK {
			return e
		}
	}
	return api.OK
}

// own returns the error of a type in a field, which hangs on what the group has.
func (m member) own(t api.Type) api.Errno {
	switch {
	case t.Kind == api.TVar && t.Num >= m.Params,
		isSelf(t) && t.Num >= len(m.group),
		t.Row.Open:
		return api.ErrNot
	case isSelf(t) && len(t.Kids) != m.group[t.Num].Params:
		return api.ErrMany
	}
	return api.OK
}

// isUnique reports whether a text can be the Unique of a declaration.
func isUnique(s string) bool {
	if len(s) > api.MaxName {
		return false
	}
	for _, letter := range s {
		if letter < 'a' || letter > 'z' {
			return false
		}
	}
	return true
}

// mustHave returns what the types of a kind must have, and whether it is a kind.
func mustHave(kind int) (must, bool) {
	few := func(many int) bool { return many <= api.MaxParam }
	switch kind {
	case api.TVar:
		return must{num: isVariable}, true
	case api.TNat:
		return must{}, true
	case api.TFun:
		return must{kids: func(many int) bool { return many == 2 }, row: rowError}, true
	case api.TData:
		return must{ref: true, kids: few}, true
	case api.TSelf:
		return must{num: func(n int) bool { return n >= 0 && n < api.MaxGroup }, kids: few}, true
	}
	return must{}, false
}

// alone returns the error of a type without those in its Kids.
func alone(t api.Type) api.Errno {
	m, is := mustHave(t.Kind)
	switch {
	case !is, m.num != nil && !m.num(t.Num):
		return api.ErrRange
	case m.num == nil && t.Num != 0,
		!m.ref && t.Ref != api.Sum{},
		m.kids == nil && len(t.Kids) > 0,
		m.row == nil && !isEmpty(t.Row):
		return api.ErrForm
	case m.kids != nil && !m.kids(len(t.Kids)):
		return api.ErrMany
	case m.row != nil:
		return m.row(t.Row)
	}
	return api.OK
}

// isVariable reports whether a number can be that of a variable.
func isVariable(n int) bool { return n >= 0 && n < MaxVar }

// rowError returns the error of the Row of a function.
func rowError(r api.Row) api.Errno {
	switch {
	case len(r.List) > MaxRow:
		return api.ErrMany
	case !slices.IsSortedFunc(r.List, sum.Compare):
		return api.ErrOrder
	case r.Open && !isVariable(r.Tail):
		return api.ErrRange
	case !r.Open && r.Tail != 0:
		return api.ErrForm
	}
	return api.OK
}

// endOf returns a row without its List.
func endOf(r api.Row) end { return end{r.Open, r.Tail} }

// isEmpty reports whether a row is that of a type that has none.
func isEmpty(r api.Row) bool { return len(r.List) == 0 && endOf(r) == end{} }
