package term_test

import (
	"reflect"
	"testing"

	"hoarstone/api"
	"hoarstone/term"
)

// owned notes all memory that lists within values have, and tells a test if two of them share any.
type owned struct {
	t    *testing.T
	what string
	met  map[uintptr]bool
}

// add notes the memory of a value.
func (o owned) add(from reflect.Value) {
	switch from.Kind() {
	case reflect.Slice:
		// What stands behind the end of a list belongs to it, too.
		all := from.Slice(0, from.Cap())
		for i := range all.Len() {
			at := all.Index(i).Addr().Pointer()
			if o.met[at] {
				o.t.Errorf("%s: shared memory", o.what)
				return
			}
			o.met[at] = true
		}
		for i := range from.Len() {
			o.add(from.Index(i))
		}
	case reflect.Struct:
		for i := range from.NumField() {
			o.add(from.Field(i))
		}
	}
}

// spare returns a copy of a value whose lists have room behind their ends, also where they are empty.
func spare[T any](x T) T { return copied(reflect.ValueOf(x), 2).Interface().(T) }

// plain returns a copy of a value of which only what is in it counts.
func plain(x any) any { return copied(reflect.ValueOf(x), 0).Interface() }

// apart calls a function twice, and tells a test if it changes an argument, shares memory with it, shares some within its results, or returns something else for the second time.
func apart(t *testing.T, what string, call func() []any, args ...any) {
	t.Helper()
	var before []any
	for _, a := range args {
		before = append(before, plain(a))
	}
	got := call()
	o := owned{t, what, map[uintptr]bool{}}
	for _, a := range args {
		o.add(reflect.ValueOf(a))
	}
	for _, g := range got {
		o.add(reflect.ValueOf(g))
	}
	for i, a := range args {
		if !reflect.DeepEqual(plain(a), before[i]) {
			t.Errorf("%s: changed its argument %d", what, i)
		}
	}
	for i, again := range call() {
		if !reflect.DeepEqual(plain(again), plain(got[i])) {
			t.Errorf("%s: another result %d", what, i)
		}
	}
}

// two, three and four return the results of a call as a list.
func two[A, B any](a A, b B) []any                  { return []any{a, b} }
func three[A, B, C any](a A, b B, c C) []any        { return []any{a, b, c} }
func four[A, B, C, D any](a A, b B, c C, d D) []any { return []any{a, b, c, d} }

// R4, R5: no function changes an argument, no result shares memory with one, or within itself; and nothing is kept.
func TestMemory(t *testing.T) {
	free := spare(fronts(60))
	for _, one := range right(23, 60) {
		u, w := spare(one), spare(app(v(3), match(v(0), on(pcon(x(1), 0, pany()), v(1)))))
		apart(t, "Check", func() []any { return []any{term.Check(u, 60, 8), term.Same(u, w), term.Same(u, u)} }, u, w)
		apart(t, "Size", func() []any { return two(term.Size(u)) }, u)
		apart(t, "Free", func() []any { return two(term.Free(u)) }, u)
		apart(t, "Shift", func() []any { return two(term.Shift(u, 1, 30)) }, u)
		apart(t, "Shift by none", func() []any { return two(term.Shift(u, 0, 0)) }, u)
		for n := range 3 {
			apart(t, "Subst", func() []any { return two(term.Subst(u, n, w)) }, u, w)
		}
		apart(t, "Refs", func() []any { return four(term.Refs(u)) }, u)
		apart(t, "Replace", func() []any { return two(term.Replace(u, x(1), x(2))) }, u)
		apart(t, "Replace nothing", func() []any { return two(term.Replace(u, x(77), x(2))) }, u)
		l, _ := paths(u)
		path := spare(l[len(l)/2])
		apart(t, "At", func() []any { return two(term.At(u, path)) }, u, path)
		apart(t, "At the whole", func() []any { return two(term.At(u, nil)) }, u)
		apart(t, "Put", func() []any { return two(term.Put(u, path, w)) }, u, path, w)
		apart(t, "Put the whole", func() []any { return two(term.Put(w, nil, u)) }, w, u)
		apart(t, "Item", func() []any { return two(term.Item(u)) }, u)
		y := spare(plainItem(one))
		apart(t, "FromItem", func() []any { return two(term.FromItem(y)) }, y)
		apart(t, "Encode", func() []any { return two(term.Encode(u)) }, u)
		b, _ := term.Encode(u)
		apart(t, "Decode", func() []any { return three(term.Decode(b)) }, b)
		apart(t, "Name", func() []any { return two(term.Name(u, free)) }, u, free)
		named := spare(plainName(one, nil, free))
		apart(t, "Nameless", func() []any { return two(term.Nameless(named, free)) }, named, free)
		// The same term twice shares memory with itself, but not with the result.
		made, e := term.Subst(u, 0, u)
		o := owned{t, "Subst of itself", map[uintptr]bool{}}
		o.add(reflect.ValueOf(u))
		if e == api.OK {
			o.add(reflect.ValueOf(made))
		}
	}
	p := spare(pcon(x(1), 0, pany(), pcon(x(2), 0, pnat(1))))
	apart(t, "Binds", func() []any { return two(term.Binds(p)) }, p)
	shared := nat(0)
	for range 6 {
		shared = app(shared, shared)
	}
	for _, call := range []func() []any{
		func() []any { return two(term.At(shared, nil)) }, func() []any { return two(term.Shift(shared, 1, 0)) }, func() []any { return two(term.Replace(shared, x(1), x(2))) },
		func() []any { return two(term.Item(shared)) }, func() []any { return two(term.Name(shared, nil)) }, func() []any { return two(term.Put(shared, []int{0}, shared)) }, func() []any { return two(term.Subst(app(v(0), v(0)), 0, app(nat(1), nat(2)))) },
	} {
		o := owned{t, "shared parts", map[uintptr]bool{}}
		for _, g := range call() {
			o.add(reflect.ValueOf(g))
		}
	}
}

// P4.1, R1, R2: all functions return the error of Check, for t and then for u, before all other errors, and nothing else; also of terms that are in themselves (P0.1).
func TestErrorsOfCheck(t *testing.T) {
	clash := api.Term{Kind: api.Lam, Num: 1}
	for _, u := range append(round(), api.Term{}, clash, app(nat(0), v(60)), self(8), lams(60, nat(0)), sized(301), match(nat(0), on(pnat(-1), nat(0)))) {
		want := term.Check(u, term.MaxOpen, api.MaxGroup)
		if want == api.OK {
			t.Error("right")
		}
		other := clash
		if want == api.ErrClash {
			other = nat(-1)
		}
		wrongPath := []int{9}
		for what, l := range map[string][]any{
			"Size": two(term.Size(u)), "Free": two(term.Free(u)), "Shift": two(term.Shift(u, 99, 99)), "Subst": two(term.Subst(u, 99, other)), "Subst by it": two(term.Subst(nat(0), 99, u)),
			"Refs": four(term.Refs(u)), "Replace": two(term.Replace(u, x(1), x(2))), "At": two(term.At(u, wrongPath)), "Put": two(term.Put(u, wrongPath, other)), "Put it": two(term.Put(nat(0), wrongPath, u)),
			"Item": two(term.Item(u)), "Encode": two(term.Encode(u)), "Name": two(term.Name(u, []string{"", "", ""})),
		} {
			for i, got := range l {
				if i == len(l)-1 {
					if got != want {
						t.Errorf("%s of %d: %v, want %v", what, u.Kind, got, want)
					}
				} else if !reflect.DeepEqual(plain(got), reflect.Zero(reflect.TypeOf(got)).Interface()) {
					t.Errorf("%s of %d: a result beside an error", what, u.Kind)
				}
			}
		}
	}
}
