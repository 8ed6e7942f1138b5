package knot_test

import (
	"bytes"
	"crypto/sha256"
	"fmt"
	"slices"

	"hoarstone/api"
	"hoarstone/term"
	"hoarstone/wire"
)

// What the chapter says, written down once more, without any limits.

// replaced returns a term in which something else stands for each Self and each Def.
func replaced(t api.Term, become func(t api.Term) api.Term) api.Term {
	made := cut(t)
	var walk func(t *api.Term)
	walk = func(t *api.Term) {
		for i := range t.Kids {
			walk(&t.Kids[i])
		}
		for i := range t.Cases {
			walk(&t.Cases[i].Body)
		}
		if t.Kind == api.Self || t.Kind == api.Def {
			*t = become(*t)
		}
	}
	walk(&made)
	return made
}

// renumbered returns a term in which the Selfs have other Nums.
func renumbered(t api.Term, number func(n int) int) api.Term {
	return replaced(t, func(t api.Term) api.Term {
		if t.Kind == api.Self {
			t.Num = number(t.Num)
		}
		return t
	})
}

// ends returns all Selfs and Defs of a term, in the order of nodes.
func ends(t api.Term) []api.Term {
	var l []api.Term
	replaced(t, func(t api.Term) api.Term {
		l = append(l, t)
		return t
	})
	return l
}

// selves returns the Nums of all Selfs of a term, in the order of nodes.
func selves(t api.Term) []int {
	var l []int
	for _, end := range ends(t) {
		if end.Kind == api.Self {
			l = append(l, end.Num)
		}
	}
	return l
}

// hashed returns a short text that stands for another one.
func hashed(s string) string {
	x := sha256.Sum256([]byte(s))
	return string(x[:])
}

// enough is more steps than members of two groups together, so that what does not show in them never does.
const enough = 2*api.MaxGroup + 1

// views returns what shows of the members of a group in enough steps: the same for two of them, of whatever groups, just if the same shows.
func views(l []api.Term) []string {
	var forms []string
	var calls [][]int
	for _, t := range l {
		forms = append(forms, hashed(fmt.Sprintf("%v", renumbered(t, func(int) int { return 0 }))))
		calls = append(calls, selves(t))
	}
	all := make([]string, len(l))
	for range enough {
		var next []string
		for i := range l {
			text := forms[i]
			for _, j := range calls[i] {
				text += " " + all[j]
			}
			next = append(next, hashed(text))
		}
		all = next
	}
	return all
}

// plainCalls is Calls.
func plainCalls(l []api.Term) [][]int {
	var all [][]int
	for _, t := range l {
		called := selves(t)
		slices.Sort(called)
		all = append(all, slices.Compact(called))
	}
	return all
}

// plainAlike is Alike.
func plainAlike(l []api.Term) []int {
	all := views(l)
	var firsts []int
	for _, s := range all {
		firsts = append(firsts, slices.Index(all, s))
	}
	return firsts
}

// web is terms that call one another: which ones each one calls, in order, and which ones it reaches.
type web struct {
	calls [][]int
	reach [][]bool
}

// webOf returns the web of calls.
func webOf(calls [][]int) web {
	w := web{calls: calls}
	for _, l := range calls {
		reach := make([]bool, len(calls))
		for _, j := range l {
			reach[j] = true
		}
		w.reach = append(w.reach, reach)
	}
	for k := range calls {
		for i := range calls {
			for j := range calls {
				w.reach[i][j] = w.reach[i][j] || w.reach[i][k] && w.reach[k][j]
			}
		}
	}
	return w
}

// with returns one, and those that it reaches and that reach it, rising.
func (w web) with(i int) []int {
	var l []int
	for j := range w.calls {
		if j == i || w.reach[i][j] && w.reach[j][i] {
			l = append(l, j)
		}
	}
	return l
}

// numbers returns the same by their numbers from the one on.
func (w web) numbers(i int) []int {
	l := []int{i}
	for done := 0; done < len(l); done++ {
		for _, j := range w.calls[l[done]] {
			if slices.Contains(w.with(i), j) && !slices.Contains(l, j) {
				l = append(l, j)
			}
		}
	}
	return l
}

// bond is a group with its first members and made members.
type bond struct {
	web
	firsts []int
	made   []api.Term
}

// bondOf returns the bond of a group.
func bondOf(l []api.Term) bond {
	b := bond{firsts: plainAlike(l)}
	var calls [][]int
	for i := range l {
		b.made = append(b.made, renumbered(l[b.firsts[i]], func(n int) int { return b.firsts[n] }))
		calls = append(calls, selves(b.made[i]))
	}
	b.web = webOf(calls)
	return b
}

// parts is Parts. (Order is numbers of the first one.)
func (b bond) parts() [][]int {
	var left, taken [][]int
	for i := range b.made {
		// A copy is reached by nobody, and of no part.
		if p := b.with(i); b.firsts[i] == i && p[0] == i {
			left = append(left, p)
		}
	}
	for len(left) > 0 {
		// left rises by the least members.
		at := slices.IndexFunc(left, func(p []int) bool {
			may := append(slices.Concat(taken...), p...)
			for _, i := range p {
				for _, j := range b.calls[i] {
					if !slices.Contains(may, j) {
						return false
					}
				}
			}
			return true
		})
		taken = append(taken, left[at])
		left = slices.Delete(left, at, at+1)
	}
	return taken
}

// codeItem returns the item of a code, if a digest is known for each member of another part.
func (b bond) codeItem(first int, digests []api.Sum) api.Item {
	own := b.numbers(first)
	y := api.Item{Kind: 40, Num: len(b.with(first))}
	for _, j := range own {
		settled := replaced(b.made[j], func(t api.Term) api.Term {
			if t.Kind == api.Def {
				return t
			}
			if k := slices.Index(own, t.Num); k >= 0 {
				return self(k)
			}
			return def(digests[t.Num])
		})
		kid, e := term.Item(settled)
		if e != api.OK {
			panic(e)
		}
		y.Kids = append(y.Kids, kid)
	}
	return y
}

// plainCodes returns the codes of all members, and their digests: none from the part on for which one would be too long.
func plainCodes(l []api.Term) ([][]byte, []api.Sum) {
	b := bondOf(l)
	codes, digests := make([][]byte, len(l)), make([]api.Sum, len(l))
parts:
	for _, p := range b.parts() {
		for _, i := range p {
			code, e := wire.Encode(b.codeItem(i, digests))
			if e != api.OK {
				break parts
			}
			codes[i] = code
		}
		for _, i := range p {
			digests[i] = sha256.Sum256(codes[i])
		}
	}
	for i, first := range b.firsts {
		codes[i], digests[i] = codes[first], digests[first]
	}
	return codes, digests
}

// plainOpen is Open of members that have these digests.
func plainOpen(l []api.Term, digests []api.Sum) []api.Term {
	var all []api.Term
	for _, t := range l {
		all = append(all, replaced(t, func(t api.Term) api.Term {
			if t.Kind == api.Self {
				return def(digests[t.Num])
			}
			return t
		}))
	}
	return all
}

// plainPermute is Permute.
func plainPermute(l []api.Term, order []int) []api.Term {
	var all []api.Term
	for _, i := range order {
		all = append(all, renumbered(l[i], func(n int) int { return slices.Index(order, n) }))
	}
	return all
}

// plainClose is Close of a digest that is known, however many members there are.
func plainClose(l []api.KnownTerm, root api.Sum) []api.Term {
	place := func(t api.Term) int {
		return slices.IndexFunc(l, func(k api.KnownTerm) bool { return t.Kind == api.Def && k.Sum == t.Ref })
	}
	var calls [][]int
	for _, k := range l {
		var called []int
		for _, end := range ends(k.Body) {
			if j := place(end); j >= 0 {
				called = append(called, j)
			}
		}
		calls = append(calls, called)
	}
	own := webOf(calls).numbers(place(def(root)))
	var all []api.Term
	for _, i := range own {
		all = append(all, replaced(l[i].Body, func(t api.Term) api.Term {
			if k := slices.Index(own, place(t)); k >= 0 {
				return self(k)
			}
			return t
		}))
	}
	return all
}

// plainVerify is Verify of terms that are closed, and whose digests come once each.
func plainVerify(l []api.KnownTerm) api.Errno {
	for _, k := range l {
		own := plainClose(l, k.Sum)
		if len(own) > api.MaxGroup {
			return api.ErrMany
		}
		codes, digests := plainCodes(own)
		switch {
		case codes[0] == nil:
			return api.ErrLong
		case !bytes.Equal(digests[0][:], k.Sum[:]):
			return api.ErrWrong
		}
	}
	return api.OK
}
