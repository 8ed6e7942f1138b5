package knot_test

import (
	"reflect"
	"testing"

	"hoarstone/api"
	"hoarstone/knot"
)

// owned notes all memory that lists within values have, and tells a test if two of them share any.
type owned struct {
	t    *testing.T
	what string
	met  map[uintptr]bool
}

// add notes the memory of a value.
func (o owned) add(from reflect.Value) {
	switch from.Kind() {
	case reflect.Slice:
		// What stands behind the end of a list belongs to it, too.
		all := from.Slice(0, from.Cap())
		for i := range all.Len() {
			at := all.Index(i).Addr().Pointer()
			if o.met[at] {
				o.t.Errorf("%s: shared memory", o.what)
				return
			}
			o.met[at] = true
		}
		for i := range from.Len() {
			o.add(from.Index(i))
		}
	case reflect.Struct:
		for i := range from.NumField() {
			o.add(from.Field(i))
		}
	}
}

// spare returns a copy of a value whose lists have room behind their ends, also where they are empty.
func spare[T any](x T) T { return copied(reflect.ValueOf(x), 2).Interface().(T) }

// plain returns a copy of a value of which only what is in it counts.
func plain(x any) any { return copied(reflect.ValueOf(x), 0).Interface() }

// apart calls a function twice, and tells a test if it changes an argument, shares memory with it, shares some within its results, or returns something else for the second time.
func apart(t *testing.T, what string, call func() []any, args ...any) {
	t.Helper()
	var before []any
	for _, a := range args {
		before = append(before, plain(a))
	}
	got := call()
	o := owned{t, what, map[uintptr]bool{}}
	for _, a := range args {
		o.add(reflect.ValueOf(a))
	}
	for _, g := range got {
		o.add(reflect.ValueOf(g))
	}
	for i, a := range args {
		if !reflect.DeepEqual(plain(a), before[i]) {
			t.Errorf("%s: changed its argument %d", what, i)
		}
	}
	for i, again := range call() {
		if !reflect.DeepEqual(plain(again), plain(got[i])) {
			t.Errorf("%s: another result %d", what, i)
		}
	}
}

// two returns the results of a call as a list.
func two[A, B any](a A, b B) []any { return []any{a, b} }

// R4, R5: no function changes an argument, no result shares memory with one, or within itself; and nothing is kept.
func TestMemory(t *testing.T) {
	r := seeded(30)
	for _, one := range groups(31, 60) {
		l, other := spare(one), spare(large(r))
		i := r.IntN(len(l))
		order := spare(r.Perm(len(l)))
		apart(t, "Check", func() []any { return []any{knot.Check(l)} }, l)
		apart(t, "Calls", func() []any { return two(knot.Calls(l)) }, l)
		apart(t, "Alike", func() []any { return two(knot.Alike(l)) }, l)
		apart(t, "Parts", func() []any { return two(knot.Parts(l)) }, l)
		apart(t, "Order", func() []any { return two(knot.Order(l, i)) }, l)
		apart(t, "Code", func() []any { return two(knot.Code(l, i)) }, l)
		apart(t, "Sums", func() []any { return two(knot.Sums(l)) }, l)
		apart(t, "Open", func() []any { return two(knot.Open(l)) }, l)
		apart(t, "Same", func() []any { return two(knot.Same(l, i, other, 0)) }, l, other)
		apart(t, "Same as itself", func() []any { return two(knot.Same(l, i, l, 0)) }, l)
		apart(t, "Permute", func() []any { return two(knot.Permute(l, order)) }, l, order)
		known := spare(once(knows(sums(t, one), opened(t, one))))
		apart(t, "Close", func() []any { return two(knot.Close(known, known[len(known)-1].Sum)) }, known)
		apart(t, "Verify", func() []any { return []any{knot.Verify(known)} }, known)
		free := spare(unknown(r))
		apart(t, "Close", func() []any { return two(knot.Close(free, free[0].Sum)) }, free)
	}
	// Members that share all their memory, with others and within themselves.
	shared := app(self(0), def(x(1)))
	for range 5 {
		shared = match(shared, on(pcon(x(1), 0, times(2, pany())...), shared))
	}
	l := times(8, shared)
	known := knows(digests(8), times(8, replaced(shared, func(api.Term) api.Term { return def(x(1)) })))
	for what, got := range map[string][]any{
		"Open": two(knot.Open(l)), "Permute": two(knot.Permute(l, []int{7, 6, 5, 4, 3, 2, 1, 0})), "Close": two(knot.Close(known, x(1))), "Parts": two(knot.Parts(l)), "Calls": two(knot.Calls(l)),
	} {
		o := owned{t, what, map[uintptr]bool{}}
		for _, u := range []api.Term{shared, known[0].Body} {
			o.met[reflect.ValueOf(u.Kids).Pointer()], o.met[reflect.ValueOf(u.Cases).Pointer()] = true, true
		}
		for _, g := range got {
			o.add(reflect.ValueOf(g))
		}
		if got[1] != api.OK {
			t.Error(what, got[1])
		}
	}
}

// P6.1, R1, R2: all functions return the error of Check, for a and then for b, before all other errors, and nothing else; also of terms that are in themselves (P0.1).
func TestErrorsOfCheck(t *testing.T) {
	var wrong [][]api.Term
	for _, u := range append(round(), api.Term{}, v(0), self(2), api.Term{Kind: api.Lam, Num: 1}, lams(60, nat(0))) {
		wrong = append(wrong, group(nat(0), u))
	}
	for _, l := range append(wrong, nil, times(9, nat(0)), group(v(0), api.Term{})) {
		want := knot.Check(l)
		if want == api.OK {
			t.Error("right")
		}
		other := group(nat(-1))
		if want == api.ErrRange {
			other = nil
		}
		for what, got := range map[string][]any{
			"Calls": two(knot.Calls(l)), "Alike": two(knot.Alike(l)), "Parts": two(knot.Parts(l)), "Order": two(knot.Order(l, 99)), "Order of 0": two(knot.Order(l, 0)), "Code": two(knot.Code(l, 99)), "Code of 0": two(knot.Code(l, 0)),
			"Sums": two(knot.Sums(l)), "Open": two(knot.Open(l)), "Same": two(knot.Same(l, 99, other, 99)), "Same behind": two(knot.Same(group(nat(0)), 99, l, 99)), "Permute": two(knot.Permute(l, []int{99})), "Permute by none": two(knot.Permute(l, nil)),
		} {
			if got[1] != want {
				t.Errorf("%s: %v, want %v", what, got[1], want)
			}
			if !reflect.DeepEqual(plain(got[0]), reflect.Zero(reflect.TypeOf(got[0])).Interface()) {
				t.Errorf("%s: a result beside an error", what)
			}
		}
	}
}

// R3: empty lists and nil ones are the same.
func TestEmptyLists(t *testing.T) {
	u := api.Term{Kind: api.Lam, Kids: []api.Term{{Kind: api.Var, Kids: []api.Term{}, Cases: []api.Case{}}}, Cases: []api.Case{}}
	p := api.Case{Pat: api.Pattern{Kind: api.PAny, Kids: []api.Pattern{}}, Body: nat(1)}
	l := group(u, lam(v(0)), match(nat(0), p), match(nat(0), on(pany(), nat(1))))
	firsts, e := knot.Alike(l)
	is(t, "Alike", firsts, []int{0, 0, 2, 2}, e, api.OK)
	is(t, "Sums", sums(t, l), sums(t, cut(l)), api.OK, api.OK)
	wants(t, "Check", knot.Check([]api.Term{}), api.ErrMany)
	wants(t, "Verify", knot.Verify([]api.KnownTerm{}), api.OK)
	_, e = knot.Close([]api.KnownTerm{}, x(1))
	wants(t, "Close", e, api.ErrNone)
	_, e = knot.Permute(group(nat(0)), []int{})
	wants(t, "Permute", e, api.ErrMany)
}
