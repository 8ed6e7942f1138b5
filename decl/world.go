package decl

import "hoarstone/api"

// known is what the digests of a world stand for.
type known struct {
	datas     map[api.Sum]api.Data
	abilities map[api.Sum]api.Ability
}

// scope is a world with as many variables as a type may use.
type scope struct {
	known
	vars, rows int
}

// work is a group at work, with its world.
type work struct {
	known
	group []api.Data
}

// CheckWorld returns the error of a world.
func CheckWorld(w api.World) api.Errno {
	_, e := opened(w)
	return e
}

// CheckType returns the error of a type in a world.
func CheckType(w api.World, t api.Type, vars, rows int) api.Errno {
	k, e := opened(w)
	if e != api.OK {
		return e
	}
	return scope{k, vars, rows}.check(t)
}

// CheckDatas returns the error of a group of declarations.
func CheckDatas(w api.World, group []api.Data) api.Errno {
	k, e := opened(w)
	if e == api.OK {
		e = ShapeDatas(group)
	}
	if e != api.OK {
		return e
	}
	return work{k, group}.check()
}

// CheckAbility returns the error of an ability.
func CheckAbility(w api.World, a api.Ability) api.Errno {
	k, e := opened(w)
	if e == api.OK {
		e = ShapeAbility(a)
	}
	if e != api.OK {
		return e
	}
	return firstError(inAll(opTypes(a)), k.refers)
}

// opened returns what the digests of a world stand for, or the error of the world.
func opened(w api.World) (known, api.Errno) {
	k := known{map[api.Sum]api.Data{}, map[api.Sum]api.Ability{}}
	if max(len(w.Datas), len(w.Abilities), len(w.Terms)) > MaxKnown {
		return known{}, api.ErrMany
	}
	if !k.fill(w) {
		return known{}, api.ErrTwice
	}
	for _, check := range []func(w api.World) api.Errno{shapeOfDatas, shapeOfAbilities, k.checkDatas, k.checkAbilities} {
		if e := check(w); e != api.OK {
			return known{}, e
		}
	}
	return k, api.OK
}

// fill notes what digests stand for, and reports whether each one is known once only.
func (k known) fill(w api.World) bool {
	met := map[api.Sum]bool{}
	for _, d := range w.Datas {
		k.datas[d.Sum], met[d.Sum] = d.Data, true
	}
	for _, a := range w.Abilities {
		k.abilities[a.Sum], met[a.Sum] = a.Ability, true
	}
	for _, t := range w.Terms {
		met[t.Sum] = true
	}
	return len(met) == len(w.Datas)+len(w.Abilities)+len(w.Terms)
}

// shapeOfDatas returns the error of the data types of a world, each one alone.
func shapeOfDatas(w api.World) api.Errno {
	for _, d := range w.Datas {
		if e := ShapeDatas([]api.Data{d.Data}); e != api.OK {
			return e
		}
		if _, is := find(inAll(fieldsOf(d.Data)), isSelf); is {
			return api.ErrNot
		}
	}
	return api.OK
}

// shapeOfAbilities returns the error of the abilities of a world, each one alone.
func shapeOfAbilities(w api.World) api.Errno {
	for _, a := range w.Abilities {
		if e := ShapeAbility(a.Ability); e != api.OK {
			return e
		}
	}
	return api.OK
}

// checkDatas returns the error of what the data types of a world refer to.
func (k known) checkDatas(w api.World) api.Errno {
	for _, d := range w.Datas {
		if e := (work{k, []api.Data{d.Data}}).check(); e != api.OK {
			return e
		}
	}
	return api.OK
}

// checkAbilities returns the error of what the abilities of a world refer to.
func (k known) checkAbilities(w api.World) api.Errno {
	for _, a := range w.Abilities {
		if e := firstError(inAll(opTypes(a.Ability)), k.refers); e != api.OK {
			return e
		}
	}
	return api.OK
}

// refers returns the error of what a type refers to, without those in its Kids.
func (k known) refers(t api.Type) api.Errno {
	if t.Kind == api.TData {
		d, is := k.datas[t.Ref]
		switch {
		case !is:
			return api.ErrNot
		case len(t.Kids) != d.Params:
			return api.ErrMany
		}
	}
	for _, ability := range t.Row.List {
		if _, is := k.abilities[ability]; !is {
			return api.ErrNot
		}
	}
	return api.OK
}

// check returns the error of what the fields of a group refer to.
func (g work) check() api.Errno { return firstError(inAll(fieldsOf(g.group...)), g.refers) }

// check returns the error of a type.
func (s scope) check(t api.Type) api.Errno {
	if e := Shape(t); e != api.OK {
		return e
	}
	if s.vars < 0 || s.vars > MaxVar || s.rows < 0 || s.rows > MaxVar {
		return api.ErrRange
	}
	return firstError(within(t), s.allows)
}

// allows returns the error of a type, without those in its Kids.
func (s scope) allows(t api.Type) api.Errno {
	switch {
	case t.Kind == api.TVar && t.Num >= s.vars, isSelf(t), t.Row.Open && t.Row.Tail >= s.rows:
		return api.ErrNot
	}
	return s.refers(t)
}
