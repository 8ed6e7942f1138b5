package space

import (
	"slices"

	"hoarstone/api"
	"hoarstone/sum"
)

// flags says something of each commit of a history.
type flags [MaxCommits]bool

// history is right commits at work, with their digests, and with their numbers by these.
type history struct {
	commits []api.Commit
	sums    []api.Sum
	numbers map[api.Sum]int
}

// Commit returns the digest of a commit.
func Commit(c api.Commit) (api.Sum, api.Errno) {
	switch {
	case len(c.Parents) > MaxParents:
		return api.Sum{}, api.ErrMany
	case len(c.Note) > MaxNote:
		return api.Sum{}, api.ErrLong
	}
	b := append(c.Root[:], byte(len(c.Parents)))
	for i, p := range c.Parents {
		if slices.Contains(c.Parents[:i], p) {
			return api.Sum{}, api.ErrTwice
		}
		b = append(b, p[:]...)
	}
	return sum.Of(append(b, c.Note...)), api.OK
}

// History returns the digests of the commits of a history.
func History(l []api.Commit) ([]api.Sum, api.Errno) {
	h, e := historyOf(l)
	return h.sums, e
}

// Ancestors returns the ancestors of a commit.
func Ancestors(l []api.Commit, x api.Sum) ([]api.Sum, api.Errno) {
	h, e := historyOf(l, x)
	if e != api.OK {
		return nil, e
	}
	return h.told(h.ancestors(h.numbers[x])), api.OK
}

// Bases returns the bases of two commits.
func Bases(l []api.Commit, x, y api.Sum) ([]api.Sum, api.Errno) {
	h, e := historyOf(l, x, y)
	if e != api.OK {
		return nil, e
	}
	return h.told(h.bases(h.numbers[x], h.numbers[y])), api.OK
}

// historyOf returns commits at work, or their error, or that of digests that are to be those of some of them.
func historyOf(l []api.Commit, asked ...api.Sum) (history, api.Errno) {
	if len(l) > MaxCommits {
		return history{}, api.ErrFull
	}
	h := history{commits: l, numbers: map[api.Sum]int{}}
	for i := range len(l) {
		x, e := h.next(l[i])
		if e != api.OK {
			return history{}, e
		}
		h.sums = append(h.sums, x)
		h.numbers[x] = i
	}
	if !h.has(asked...) {
		return history{}, api.ErrNone
	}
	return h, api.OK
}

// next returns the digest of a commit that comes behind the others.
func (h history) next(c api.Commit) (api.Sum, api.Errno) {
	x, e := Commit(c)
	switch {
	case e != api.OK:
		return api.Sum{}, e
	case !h.has(c.Parents...):
		return api.Sum{}, api.ErrOrder
	case h.has(x):
		return api.Sum{}, api.ErrTwice
	}
	return x, api.OK
}

// has reports whether all of some digests are those of commits.
func (h history) has(all ...api.Sum) bool {
	return !slices.ContainsFunc(all, func(x api.Sum) bool {
		_, is := h.numbers[x]
		return !is
	})
}

// ancestors returns which commits are ancestors of one.
func (h history) ancestors(i int) flags {
	var met flags
	var up func(i int)
	up = func(i int) {
		met[i] = true
		for _, p := range h.commits[i].Parents {
			if j := h.numbers[p]; !met[j] {
				up(j)
			}
		}
	}
	up(i)
	return met
}

// bases returns which commits are bases of two.
func (h history) bases(i, j int) flags {
	both := h.ancestors(i).and(h.ancestors(j))
	bases := both
	for k := range len(h.commits) {
		if !both[k] {
			continue
		}
		for n, is := range h.ancestors(k) {
			// A base is no ancestor of another one.
			if is && n != k {
				bases[n] = false
			}
		}
	}
	return bases
}

// and returns what both say.
func (f flags) and(g flags) flags {
	for i := range len(f) {
		f[i] = f[i] && g[i]
	}
	return f
}

// told returns the digests of some commits, in order.
func (h history) told(some flags) []api.Sum {
	var l []api.Sum
	for i, x := range h.sums {
		if some[i] {
			l = append(l, x)
		}
	}
	return l
}
