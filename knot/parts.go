package knot

import (
	"slices"

	"hoarstone/api"
	"hoarstone/term"
)

// flags says something of each term of a group, or of all that are known.
type flags [MaxKnown]bool

// bonds is what terms that call one another have to do with each other: those that each one calls, node by node, and those to which it leads, which are itself and all that it reaches.
type bonds struct {
	calls [][]int
	leads []flags
}

// class is what shows of a member in some number of steps: its term but for the Nums of Selfs, and the first ones, by what showed before, of those that it calls, one byte each.
type class struct{ term, calls string }

// group is a group at work: the first ones of its members, and the made members with their bonds.
type group struct {
	bonds
	firsts []int
	made   []api.Term
}

// Alike returns for each member the first one that is alike.
func Alike(l []api.Term) ([]int, api.Errno) {
	if e := Check(l); e != api.OK {
		return nil, e
	}
	return firsts(l), api.OK
}

// Parts returns the parts of a group in order.
func Parts(l []api.Term) ([][]int, api.Errno) {
	if e := Check(l); e != api.OK {
		return nil, e
	}
	return groupOf(l).parts(), api.OK
}

// Order returns the members of the part of a member's first one by their numbers from it on.
func Order(l []api.Term, i int) ([]int, api.Errno) {
	if e := Check(l); e != api.OK {
		return nil, e
	}
	if lacks(l, i) {
		return nil, api.ErrNot
	}
	g := groupOf(l)
	return g.numbered(g.firsts[i]), api.OK
}

// firsts returns for each member of a right group the first one that is alike.
func firsts(l []api.Term) []int {
	terms := each(l, faceless)
	called := callsOf(l, member)
	// All are alike, unless something shows that they are not: at first nothing does.
	found := make([]int, len(l))
	for {
		next := firstsBehind(terms, called, found)
		if slices.Equal(next, found) {
			return found
		}
		found = next
	}
}

// firstsBehind returns for each member the first one of its class, if the first ones that showed before are told.
func firstsBehind(terms []string, called [][]int, before []int) []int {
	met := map[class]int{}
	var found []int
	for i := range len(terms) {
		shown := each(called[i], func(j int) byte { return byte(before[j]) })
		c := class{terms[i], string(shown)}
		if _, is := met[c]; !is {
			met[c] = i
		}
		found = append(found, met[c])
	}
	return found
}

// faceless returns the bytes of a member in which nothing tells which members it calls.
func faceless(t api.Term) string {
	nobody := change{api.Self, func(api.Term) api.Term { return api.Term{Kind: api.Self} }}
	// The bytes of one right term are never too many.
	b, _ := term.Encode(nobody.of(t))
	return string(b)
}

// groupOf returns a right group at work.
func groupOf(l []api.Term) group {
	g := group{firsts: firsts(l)}
	firstOne := change{api.Self, func(t api.Term) api.Term {
		t.Num = g.firsts[t.Num]
		return t
	}}
	g.made = each(g.firsts, func(i int) api.Term { return firstOne.of(l[i]) })
	g.bonds = bondsOf(g.made, member)
	return g
}

// callsOf returns for each term those that it calls, node by node, if a function tells which ones.
func callsOf(l []api.Term, which func(t api.Term) (int, bool)) [][]int {
	return each(l, func(t api.Term) []int { return slices.Collect(calls(t, which)) })
}

// bondsOf returns the bonds of terms, if a function tells which ones are called.
func bondsOf(l []api.Term, which func(t api.Term) (int, bool)) bonds {
	b := bonds{calls: callsOf(l, which)}
	for i := range len(l) {
		b.leads = append(b.leads, b.leadsFrom(i))
	}
	return b
}

// leadsFrom returns to which terms one leads.
func (b bonds) leadsFrom(i int) flags {
	var met flags
	var walk func(i int)
	walk = func(i int) {
		met[i] = true
		for _, j := range b.calls[i] {
			if !met[j] {
				walk(j)
			}
		}
	}
	walk(i)
	return met
}

// tied reports whether two terms are the same one, or reach each other: just then both lead to the same ones.
func (b bonds) tied(i, j int) bool { return b.leads[i] == b.leads[j] }

// numbered returns the terms that are tied to one by their numbers from it on.
func (b bonds) numbered(first int) []int {
	l := []int{first}
	// The list grows while it is gone through.
	for i := 0; i < len(l); i++ {
		for _, j := range b.calls[l[i]] {
			if b.tied(first, j) && !slices.Contains(l, j) {
				l = append(l, j)
			}
		}
	}
	return l
}

// parts returns the parts of a group in order.
func (g group) parts() [][]int {
	var l [][]int
	var taken flags
	for i := g.next(taken); i >= 0; i = g.next(taken) {
		part := slices.Sorted(slices.Values(g.numbered(i)))
		for _, j := range part {
			taken[j] = true
		}
		l = append(l, part)
	}
	return l
}

// next returns the least member of the part that comes behind those that were taken; -1 if all were.
func (g group) next(taken flags) int {
search:
	for i, first := range g.firsts {
		if i != first || taken[i] {
			continue
		}
		for j := range len(g.made) {
			if g.leads[i][j] && !taken[j] && !g.tied(i, j) {
				continue search
			}
		}
		return i
	}
	return -1
}
