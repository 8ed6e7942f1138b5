package decl_test

import (
	"hoarstone/api"
)

// What the chapter says of right types, declarations and worlds, written down once more, list by list: first all types are listed, then each is asked.

// flat returns the types in a type, in order; no more than so many.
func flat(t api.Type, most int) []api.Type {
	l := []api.Type{t}
	for _, kid := range t.Kids {
		if len(l) < most {
			l = append(l, flat(kid, most-len(l))...)
		}
	}
	return l
}

// all returns the types in types, one type after the other.
func all(types []api.Type) []api.Type {
	var l []api.Type
	for _, t := range types {
		l = append(l, flat(t, 62)...)
	}
	return l
}

// fieldTypes returns the types of all fields.
func fieldTypes(l []api.Data) []api.Type {
	var types []api.Type
	for _, d := range l {
		for _, con := range d.Cons {
			types = append(types, con...)
		}
	}
	return types
}

// opTypes returns the types of all operations.
func opTypes(a api.Ability) []api.Type {
	var types []api.Type
	for _, o := range a.Ops {
		types = append(types, o.From, o.To)
	}
	return types
}

// rises reports whether no digest comes before a lesser one.
func rises(l []api.Sum) bool {
	for i := range l {
		if i > 0 && compare(l[i-1], l[i]) > 0 {
			return false
		}
	}
	return true
}

// plainRow is what Shape says of the Row of a function.
func plainRow(r api.Row) api.Errno {
	switch {
	case len(r.List) > 16:
		return api.ErrMany
	case !rises(r.List):
		return api.ErrOrder
	case r.Open && (r.Tail < 0 || r.Tail > 999):
		return api.ErrRange
	case !r.Open && r.Tail != 0:
		return api.ErrForm
	}
	return api.OK
}

// plainAlone is what Shape says of one type.
func plainAlone(t api.Type) api.Errno {
	isVar, isFun, isData, isSelf := t.Kind == 1, t.Kind == 3, t.Kind == 4, t.Kind == 5
	if t.Kind < 1 || t.Kind > 5 || isVar && (t.Num < 0 || t.Num > 999) || isSelf && (t.Num < 0 || t.Num > 7) {
		return api.ErrRange
	}
	hasNum, hasRef, hasKids := isVar || isSelf, isData, isFun || isData || isSelf
	if !hasNum && t.Num != 0 || !hasRef && t.Ref != (api.Sum{}) || !hasKids && len(t.Kids) != 0 || !isFun && (len(t.Row.List) != 0 || t.Row.Open || t.Row.Tail != 0) {
		return api.ErrForm
	}
	if isFun && len(t.Kids) != 2 || len(t.Kids) > 3 {
		return api.ErrMany
	}
	if isFun {
		return plainRow(t.Row)
	}
	return api.OK
}

// plainShape is Shape.
func plainShape(t api.Type) api.Errno {
	l := flat(t, 61)
	if len(l) > 60 {
		return api.ErrMany
	}
	for _, u := range l {
		if e := plainAlone(u); e != api.OK {
			return e
		}
	}
	return api.OK
}

// plainUnique reports whether a text can be a Unique.
func plainUnique(s string) bool {
	for i := range len(s) {
		if s[i] < 'a' || s[i] > 'z' {
			return false
		}
	}
	return len(s) <= 10
}

// plainDatas is ShapeDatas.
func plainDatas(l []api.Data) api.Errno {
	if len(l) == 0 || len(l) > 8 {
		return api.ErrMany
	}
	for _, d := range l {
		switch {
		case !plainUnique(d.Unique):
			return api.ErrForm
		case d.Params < 0, d.Params > 3:
			return api.ErrRange
		case len(d.Cons) > 8:
			return api.ErrMany
		}
		for _, con := range d.Cons {
			if len(con) > 4 {
				return api.ErrMany
			}
			for _, field := range con {
				if e := plainField(field, d.Params, l); e != api.OK {
					return e
				}
			}
		}
	}
	if len(all(fieldTypes(l))) > 1000 {
		return api.ErrMany
	}
	return api.OK
}

// plainField is what ShapeDatas says of a field.
func plainField(field api.Type, params int, l []api.Data) api.Errno {
	if e := plainShape(field); e != api.OK {
		return e
	}
	for _, t := range flat(field, 62) {
		switch {
		case t.Kind == 1 && t.Num >= params, t.Kind == 5 && t.Num >= len(l), t.Kind == 3 && t.Row.Open:
			return api.ErrNot
		case t.Kind == 5 && len(t.Kids) != l[t.Num].Params:
			return api.ErrMany
		}
	}
	return api.OK
}

// plainAbility is ShapeAbility.
func plainAbility(a api.Ability) api.Errno {
	if !plainUnique(a.Unique) {
		return api.ErrForm
	}
	if len(a.Ops) > 8 {
		return api.ErrMany
	}
	for _, t := range opTypes(a) {
		if e := plainShape(t); e != api.OK {
			return e
		}
		for _, u := range flat(t, 62) {
			if u.Kind == 1 || u.Kind == 5 || u.Row.Open {
				return api.ErrNot
			}
		}
	}
	return api.OK
}

// dataOf returns what a digest stands for as a data type, and whether it does.
func dataOf(w api.World, ref api.Sum) (api.Data, bool) {
	for _, d := range w.Datas {
		if d.Sum == ref {
			return d.Data, true
		}
	}
	return api.Data{}, false
}

// isAbility reports whether a digest is known as an ability.
func isAbility(w api.World, ref api.Sum) bool {
	for _, a := range w.Abilities {
		if a.Sum == ref {
			return true
		}
	}
	return false
}

// plainRefers is what CheckDatas and CheckAbility ask of types besides.
func plainRefers(w api.World, types []api.Type) api.Errno {
	for _, t := range all(types) {
		if t.Kind == 4 {
			d, is := dataOf(w, t.Ref)
			if !is {
				return api.ErrNot
			}
			if len(t.Kids) != d.Params {
				return api.ErrMany
			}
		}
		for _, a := range t.Row.List {
			if !isAbility(w, a) {
				return api.ErrNot
			}
		}
	}
	return api.OK
}

// plainWorld is CheckWorld.
func plainWorld(w api.World) api.Errno {
	if len(w.Datas) > 60 || len(w.Abilities) > 60 || len(w.Terms) > 60 {
		return api.ErrMany
	}
	var digests []api.Sum
	for _, d := range w.Datas {
		digests = append(digests, d.Sum)
	}
	for _, a := range w.Abilities {
		digests = append(digests, a.Sum)
	}
	for _, t := range w.Terms {
		digests = append(digests, t.Sum)
	}
	for i, a := range digests {
		for _, b := range digests[:i] {
			if a == b {
				return api.ErrTwice
			}
		}
	}
	for _, d := range w.Datas {
		l := []api.Data{d.Data}
		if e := plainDatas(l); e != api.OK {
			return e
		}
		for _, t := range all(fieldTypes(l)) {
			if t.Kind == 5 {
				return api.ErrNot
			}
		}
	}
	for _, a := range w.Abilities {
		if e := plainAbility(a.Ability); e != api.OK {
			return e
		}
	}
	for _, d := range w.Datas {
		if e := plainRefers(w, fieldTypes([]api.Data{d.Data})); e != api.OK {
			return e
		}
	}
	for _, a := range w.Abilities {
		if e := plainRefers(w, opTypes(a.Ability)); e != api.OK {
			return e
		}
	}
	return api.OK
}

// firstOf returns the first error, or the answer of what is asked at last.
func firstOf(errors []api.Errno, last func() api.Errno) api.Errno {
	for _, e := range errors {
		if e != api.OK {
			return e
		}
	}
	return last()
}

// plainType is CheckType.
func plainType(w api.World, t api.Type, vars, rows int) api.Errno {
	return firstOf([]api.Errno{plainWorld(w), plainShape(t)}, func() api.Errno {
		if vars < 0 || vars > 1000 || rows < 0 || rows > 1000 {
			return api.ErrRange
		}
		for _, u := range flat(t, 62) {
			if u.Kind == 1 && u.Num >= vars || u.Kind == 5 || u.Row.Open && u.Row.Tail >= rows {
				return api.ErrNot
			}
			if e := plainRefers(w, []api.Type{{Kind: u.Kind, Ref: u.Ref, Row: u.Row, Kids: times(len(u.Kids), nat())}}); e != api.OK {
				return e
			}
		}
		return api.OK
	})
}
