package decl

import (
	"iter"
	"slices"

	"hoarstone/api"
)

// flags says something of each member of a group.
type flags [api.MaxGroup]bool

// ties is the made members of a group, the first one of each member, and which members each one reaches.
type ties struct {
	made    []api.Data
	firsts  []int
	reaches []flags
}

// Alike returns for each member the first one that is alike.
func Alike(group []api.Data) ([]int, api.Errno) {
	if e := ShapeDatas(group); e != api.OK {
		return nil, e
	}
	return firsts(group), api.OK
}

// Parts returns the parts of a group in order.
func Parts(group []api.Data) ([][]int, api.Errno) {
	if e := ShapeDatas(group); e != api.OK {
		return nil, e
	}
	return tiesOf(group).parts(), api.OK
}

// firsts returns for each member the first one that is alike.
func firsts(group []api.Data) []int {
	// All are alike, unless something shows that they are not: at first nothing does.
	l := make([]int, len(group))
	for {
		next := firstsBehind(group, l)
		if slices.Equal(next, l) {
			return l
		}
		l = next
	}
}

// firstsBehind returns for each member the first one that is the same, if members are mentioned by their first ones so far.
func firstsBehind(group []api.Data, firsts []int) []int {
	made := mentioning(group, firsts)
	return each(made, func(d api.Data) int {
		return slices.IndexFunc(made, func(o api.Data) bool { return sameDatas(d, o) })
	})
}

// mentioning returns the members with other numbers of members in them.
func mentioning(group []api.Data, numbers []int) []api.Data {
	return each(group, func(d api.Data) api.Data {
		return changedData(d, func(t api.Type) api.Type {
			if isSelf(t) {
				t.Num = numbers[t.Num]
			}
			return t
		})
	})
}

// tiesOf returns the ties of a group of the right shape.
func tiesOf(group []api.Data) ties {
	b := ties{firsts: firsts(group)}
	// Members that are alike are the same as soon as they mention first ones only.
	b.made = mentioning(group, b.firsts)
	for i := range len(group) {
		b.reaches = append(b.reaches, b.reachedFrom(i))
	}
	return b
}

// mentions yields the members that a made member mentions, each as often as it does.
func (b ties) mentions(i int) iter.Seq[int] {
	return func(yield func(int) bool) {
		for t := range inAll(fieldsOf(b.made[i])) {
			if isSelf(t) && !yield(t.Num) {
				return
			}
		}
	}
}

// reachedFrom returns which members one reaches.
func (b ties) reachedFrom(i int) flags {
	var met flags
	var walk func(i int)
	walk = func(i int) {
		for j := range b.mentions(i) {
			if !met[j] {
				met[j] = true
				walk(j)
			}
		}
	}
	walk(i)
	return met
}

// tied reports whether two first members are of one part.
func (b ties) tied(i, j int) bool { return i == j || b.reaches[i][j] && b.reaches[j][i] }

// part returns the members of the part of a first member, rising.
func (b ties) part(i int) []int {
	var l []int
	for j := range len(b.made) {
		if b.tied(i, j) {
			l = append(l, j)
		}
	}
	return l
}

// parts returns the parts in order.
func (b ties) parts() [][]int {
	var l [][]int
	var taken flags
	for {
		i := b.next(taken)
		if i < 0 {
			return l
		}
		part := b.part(i)
		for _, j := range part {
			taken[j] = true
		}
		l = append(l, part)
	}
}

// next returns the least member of the part that comes behind those that were taken; -1 if all were.
func (b ties) next(taken flags) int {
	for i, first := range b.firsts {
		if i == first && !taken[i] && b.ready(i, taken) {
			return i
		}
	}
	return -1
}

// ready reports whether all that a first member reaches is of its part, or was taken.
func (b ties) ready(i int, taken flags) bool {
	for j := range len(b.made) {
		if b.reaches[i][j] && !taken[j] && !b.tied(i, j) {
			return false
		}
	}
	return true
}

// numbered returns the members of the part of a first member by their numbers from it on.
func (b ties) numbered(first int) []int {
	l := []int{first}
	// The list grows while it is gone through.
	for i := 0; i < len(l); i++ {
		for j := range b.mentions(l[i]) {
			if b.tied(first, j) {
				l = withNumber(l, j)
			}
		}
	}
	return l
}
