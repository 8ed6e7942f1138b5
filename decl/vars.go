package decl

import (
	"slices"

	"hoarstone/api"
	"hoarstone/sum"
)

// Put returns a type with types and rows in the place of variables.
func Put(t api.Type, types []api.Type, rows []api.Row) (api.Type, api.Errno) {
	if e := shapes(t, types, rows); e != api.OK {
		return api.Type{}, e
	}
	typeNumbers, rowNumbers := variables(t)
	if !below(typeNumbers, len(types)) || !below(rowNumbers, len(rows)) {
		return api.Type{}, api.ErrNot
	}
	made := changed(t, filling(types, rows))
	_, long := find(within(made), func(t api.Type) bool { return len(t.Row.List) > MaxRow })
	if long || large(made) {
		return api.Type{}, api.ErrFull
	}
	return made, api.OK
}

// Variables returns the numbers of the variables of a type.
func Variables(t api.Type) (types, rows []int, e api.Errno) {
	if e := Shape(t); e != api.OK {
		return nil, nil, e
	}
	types, rows = variables(t)
	return types, rows, api.OK
}

// Normal returns the scheme of a type whose variables stand for any ones.
func Normal(t api.Type) (api.Scheme, api.Errno) {
	types, rows, e := Variables(t)
	if e != api.OK {
		return api.Scheme{}, e
	}
	normal := changed(t, func(t api.Type) api.Type {
		switch {
		case t.Kind == api.TVar:
			t.Num = slices.Index(types, t.Num)
		case t.Row.Open:
			t.Row.Tail = slices.Index(rows, t.Row.Tail)
		}
		return t
	})
	return api.Scheme{Vars: len(types), Rows: len(rows), Type: normal}, api.OK
}

// shapes returns the first error of a type, of types, and of rows, one after the other.
func shapes(t api.Type, types []api.Type, rows []api.Row) api.Errno {
	if e := Shape(t); e != api.OK {
		return e
	}
	for _, u := range types {
		if e := Shape(u); e != api.OK {
			return e
		}
	}
	for _, r := range rows {
		if e := rowError(r); e != api.OK {
			return e
		}
	}
	return api.OK
}

// below reports whether all numbers are less than one.
func below(l []int, most int) bool {
	return !slices.ContainsFunc(l, func(n int) bool { return n >= most })
}

// variables returns the numbers of the type variables, and of the row variables, of a type of the right shape, each once, as they come up.
func variables(t api.Type) (types, rows []int) {
	var walk func(t api.Type)
	walk = func(t api.Type) {
		if t.Kind == api.TVar {
			types = withNumber(types, t.Num)
		}
		for i, kid := range t.Kids {
			// A row stands between what a function takes and what it gives.
			if i == 1 && t.Row.Open {
				rows = withNumber(rows, t.Row.Tail)
			}
			walk(kid)
		}
	}
	walk(t)
	return types, rows
}

// withNumber returns a list with a number at its end, unless it is there.
func withNumber(l []int, n int) []int {
	if slices.Contains(l, n) {
		return l
	}
	return append(l, n)
}

// filling returns what puts types and rows in the place of variables.
func filling(types []api.Type, rows []api.Row) func(t api.Type) api.Type {
	return func(t api.Type) api.Type {
		switch {
		case t.Kind == api.TVar:
			return changed(types[t.Num], unchanged)
		case t.Row.Open:
			more := rows[t.Row.Tail]
			t.Row = api.Row{List: together(t.Row.List, more.List), Open: more.Open, Tail: more.Tail}
		}
		return t
	}
}

// together returns the digests of lists, rising, each as often as in all of them.
func together(lists ...[]api.Sum) []api.Sum {
	all := slices.Concat(lists...)
	slices.SortFunc(all, sum.Compare)
	return all
}

// changed returns what becomes of a type, in new memory, if it is told what becomes of one whose Kids have been changed already.
func changed(t api.Type, become func(t api.Type) api.Type) api.Type {
	t.Kids = each(t.Kids, func(kid api.Type) api.Type { return changed(kid, become) })
	t.Row.List = slices.Clone(t.Row.List)
	return become(t)
}

// changedData returns a declaration all of whose types were changed, in new memory.
func changedData(d api.Data, become func(t api.Type) api.Type) api.Data {
	d.Cons = each(d.Cons, func(fields []api.Type) []api.Type {
		return each(fields, func(t api.Type) api.Type { return changed(t, become) })
	})
	return d
}

// copiedOp returns an operation in new memory.
func copiedOp(op api.Op) api.Op {
	return api.Op{From: changed(op.From, unchanged), To: changed(op.To, unchanged)}
}

// unchanged leaves a type as it is.
func unchanged(t api.Type) api.Type { return t }
