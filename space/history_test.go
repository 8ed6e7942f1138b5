package space_test

import (
	"bytes"
	"math/rand/v2"
	"slices"
	"strings"
	"testing"

	"hoarstone/api"
	"hoarstone/space"
)

// digestOf returns the digest of a commit, whatever is wrong in it.
func digestOf(c api.Commit) api.Sum {
	var b bytes.Buffer
	b.Write(c.Root[:])
	b.WriteByte(byte(len(c.Parents)))
	for _, p := range c.Parents {
		b.Write(p[:])
	}
	b.WriteString(c.Note)
	return hash(b.Bytes())
}

// commit returns a commit without a root.
func commit(note string, parents ...api.Sum) api.Commit {
	return api.Commit{Parents: parents, Note: note}
}

// web is a history that is made of numbers: the parents of each commit.
type web [][]int

// commits returns the commits, and their digests.
func (w web) commits() ([]api.Commit, []api.Sum) {
	var l []api.Commit
	var sums []api.Sum
	for i, parents := range w {
		c := commit(strings.Repeat("n", i%9))
		c.Root = x(i / 9)
		for _, p := range parents {
			c.Parents = append(c.Parents, sums[p])
		}
		l, sums = append(l, c), append(sums, digestOf(c))
	}
	return l, sums
}

// up returns for each commit which ones are its ancestors.
func (w web) up() [][]bool {
	var l [][]bool
	for i, parents := range w {
		is := make([]bool, len(w))
		is[i] = true
		for _, p := range parents {
			for k := range w {
				is[k] = is[k] || l[p][k]
			}
		}
		l = append(l, is)
	}
	return l
}

// bases returns the bases of two commits.
func (w web) bases(i, j int) []int {
	up := w.up()
	var both, l []int
	for k := range w {
		if up[i][k] && up[j][k] {
			both = append(both, k)
		}
	}
	for _, k := range both {
		if !slices.ContainsFunc(both, func(n int) bool { return n != k && up[n][k] }) {
			l = append(l, k)
		}
	}
	return l
}

// history returns a random web of so many commits: of any parents that come earlier, or of parents in the layer before, so that many pairs have several bases.
func history(r *rand.Rand, n int) web {
	w := web{nil}
	layer := pick(r, []int{0, 2, 3, 5})
	for i := 1; i < n; i++ {
		from, to, many := 0, i, r.IntN(space.MaxParents+1)
		if layer > 0 {
			to = i / layer * layer
			from = max(to-layer, 0)
			many = pick(r, []int{1, 2, 2, 3})
		}
		var parents []int
		for _, k := range r.Perm(to - from)[:min(to-from, many)] {
			parents = append(parents, from+k)
		}
		w = append(w, parents)
	}
	return w
}

// at returns the digests of numbers.
func at(sums []api.Sum, numbers []int) []api.Sum {
	var l []api.Sum
	for _, i := range numbers {
		l = append(l, sums[i])
	}
	return l
}

// P7.6: digests of commits by their bytes, and their errors in order.
func TestCommit(t *testing.T) {
	five := []api.Sum{x(1), x(2), x(3), x(4), x(5)}
	long, longer := strings.Repeat("é", 100), strings.Repeat("n", 201)
	for i, y := range []struct {
		c api.Commit
		e api.Errno
	}{
		{api.Commit{}, api.OK}, {api.Commit{Root: x(7)}, api.OK}, {commit("note", x(1)), api.OK}, {commit("", x(2), x(1), x(0)), api.OK}, {api.Commit{Root: x(300), Parents: five[:4], Note: long}, api.OK}, {commit("\xff\x00\n"), api.OK}, {commit(longer[:200]), api.OK}, {api.Commit{Root: x(1), Parents: five[:1]}, api.OK},
		{commit("", five...), api.ErrMany}, {commit(longer, five...), api.ErrMany}, {commit("", x(1), x(1), x(1), x(1), x(1)), api.ErrMany}, {commit("", slices.Repeat(five, 100)...), api.ErrMany},
		{commit(longer), api.ErrLong}, {commit(longer, five[:4]...), api.ErrLong}, {commit(longer, x(1), x(1)), api.ErrLong}, {commit(long + "n"), api.ErrLong}, {commit(strings.Repeat("n", 1<<20)), api.ErrLong},
		{commit("", x(1), x(1)), api.ErrTwice}, {commit("", x(1), x(2), x(3), x(1)), api.ErrTwice}, {commit("", x(0), x(2), x(3), x(3)), api.ErrTwice}, {commit("", x(0), x(0)), api.ErrTwice},
	} {
		got, e := space.Commit(y.c)
		same(t, string(rune('A'+i)), got, e, digestOf(y.c), y.e)
	}
	// By hand, byte by byte.
	got, e := space.Commit(api.Commit{Root: x(1), Parents: []api.Sum{x(3), x(2)}, Note: "hi"})
	same(t, "by hand", got, e, hash(sumOf(1), []byte{2}, sumOf(3), sumOf(2), []byte("hi")), api.OK)
}

// P7.6: digests of histories, and their errors, commit by commit.
func TestHistory(t *testing.T) {
	l, sums := history(seeded(50), space.MaxCommits).commits()
	for n := range len(l) + 1 {
		got, e := space.History(l[:n])
		tells(t, "History", got, e, sums[:n], api.OK)
	}
	first, second := commit("1"), commit("2", digestOf(commit("1")))
	bad := map[api.Errno]api.Commit{api.ErrMany: commit("", make([]api.Sum, 5)...), api.ErrLong: commit(strings.Repeat("n", 201)), api.ErrTwice: commit("", x(1), x(1)), api.ErrOrder: commit("", x(1))}
	for want, c := range bad {
		for _, d := range bad {
			for _, l := range [][]api.Commit{{c}, {c, d}, {first, c}, {first, second, c, d}, {first, c, first}} {
				got, e := space.History(l)
				tells(t, "bad", got, e, nil, want)
				many := slices.Concat(l, slices.Repeat([]api.Commit{d}, 60))
				got, e = space.History(many)
				tells(t, "many", got, e, nil, api.ErrFull)
			}
		}
	}
	for i, y := range []struct {
		l []api.Commit
		e api.Errno
	}{
		{[]api.Commit{first, second}, api.OK}, {[]api.Commit{second, first}, api.ErrOrder}, {[]api.Commit{first, first}, api.ErrTwice}, {[]api.Commit{first, second, second}, api.ErrTwice}, {[]api.Commit{first, second, first}, api.ErrTwice}, {[]api.Commit{first, first, bad[api.ErrLong]}, api.ErrTwice},
		{[]api.Commit{first, commit("", digestOf(first), x(1))}, api.ErrOrder}, {[]api.Commit{first, commit("", x(1), digestOf(first))}, api.ErrOrder}, {[]api.Commit{first, commit("", digestOf(first), digestOf(first))}, api.ErrTwice}, {[]api.Commit{first, commit("", x(1), x(1))}, api.ErrTwice}, {[]api.Commit{commit("", x(0))}, api.ErrOrder},
		{[]api.Commit{first, commit(first.Note, digestOf(first)), commit("1", digestOf(second))}, api.ErrOrder},
		{append(slices.Clone(l), first), api.ErrFull}, {append(slices.Clone(l), l...), api.ErrFull}, {append([]api.Commit{bad[api.ErrLong]}, l...), api.ErrFull}, {append(slices.Clone(l[:59]), l[0]), api.ErrTwice},
	} {
		_, e := space.History(y.l)
		if e != y.e {
			t.Error(i, e, "want", y.e)
		}
	}
}

// P7.6: ancestors and bases in random histories, and in all small ones.
func TestAncestorsAndBases(t *testing.T) {
	r := seeded(51)
	all := smallWebs(4)
	for range 60 {
		all = append(all, history(r, 1+r.IntN(20)))
	}
	all = append(all, history(r, space.MaxCommits))
	for _, w := range all {
		l, sums := w.commits()
		up := w.up()
		for i, x := range sums {
			var want []api.Sum
			for k, is := range up[i] {
				if is {
					want = append(want, sums[k])
				}
			}
			got, e := space.Ancestors(l, x)
			tells(t, "Ancestors", got, e, want, api.OK)
			for j := range sums {
				if len(w) > 20 && j%7 > 0 {
					continue
				}
				got, e := space.Bases(l, x, sums[j])
				tells(t, "Bases", got, e, at(sums, w.bases(i, j)), api.OK)
			}
		}
	}
}

// smallWebs returns all webs of so many commits.
func smallWebs(n int) []web {
	if n == 0 {
		return []web{nil}
	}
	var l []web
	for _, w := range smallWebs(n - 1) {
		for set := range 1 << (n - 1) {
			var parents []int
			for i := range n - 1 {
				if set>>i&1 == 1 {
					parents = append(parents, i)
				}
			}
			l = append(l, append(slices.Clone(w), parents))
		}
	}
	return l
}

// P7.6: histories by hand: example 5, two bases, and none.
func TestBasesByHand(t *testing.T) {
	for i, y := range []struct {
		w    web
		i, j int
		want []int
	}{
		{web{nil, {0}, {0}, {1, 2}}, 1, 2, []int{0}}, {web{nil, {0}, {0}, {1, 2}}, 1, 3, []int{1}}, {web{nil, {0}, {0}, {2, 1}}, 3, 0, []int{0}}, {web{nil}, 0, 0, []int{0}},
		{web{nil, nil}, 0, 1, nil}, {web{nil, nil, {0}, {1}}, 2, 3, nil}, {web{nil, nil, {0, 1}, {1, 0}}, 2, 3, []int{0, 1}}, {web{nil, {0}, {0}, {1, 2}, {2, 1}}, 4, 3, []int{1, 2}},
		// An ancestor of a base that is reached another way, too, is none.
		{web{nil, {0}, {1, 0}, {0, 1}}, 2, 3, []int{1}}, {web{nil, {0}, {1}, {2}, {1}}, 3, 4, []int{1}},
	} {
		l, sums := y.w.commits()
		got, e := space.Bases(l, sums[y.i], sums[y.j])
		tells(t, string(rune('A'+i)), got, e, at(sums, y.want), api.OK)
	}
	// Each commit has four parents: there are far too many ways up to go all of them.
	w := web{nil}
	for i := 1; i < space.MaxCommits; i++ {
		w = append(w, []int{i - 1, max(i-2, 0), max(i-3, 0), max(i-4, 0)}[:min(i, 4)])
	}
	l, sums := w.commits()
	got, e := space.Ancestors(l, sums[59])
	tells(t, "tower", got, e, sums, api.OK)
	got, e = space.Bases(l, sums[59], sums[58])
	tells(t, "tower", got, e, sums[58:59], api.OK)
}

// P7.6: the errors of Ancestors and Bases: those of History, and digests of no commit.
func TestAskedErrors(t *testing.T) {
	l, sums := web{nil, {0}}.commits()
	for i, y := range []struct {
		l        []api.Commit
		x, y     api.Sum
		e, asked api.Errno
	}{
		{l, sums[0], sums[1], api.OK, api.OK}, {l, sums[0], x(1), api.ErrNone, api.ErrNone}, {l, x(1), sums[0], api.ErrNone, api.OK}, {l, x(1), x(1), api.ErrNone, api.ErrNone}, {nil, x(0), x(0), api.ErrNone, api.ErrNone}, {l[:1], sums[0], sums[1], api.ErrNone, api.ErrNone}, {l, sums[0], l[1].Root, api.ErrNone, api.ErrNone},
		{l[1:], x(1), x(1), api.ErrOrder, api.ErrOrder}, {l[1:], sums[1], sums[1], api.ErrOrder, api.ErrOrder}, {slices.Repeat(l, 2), sums[0], sums[1], api.ErrTwice, api.ErrTwice}, {slices.Repeat(l, 31), x(1), x(1), api.ErrFull, api.ErrFull}, {[]api.Commit{commit(strings.Repeat("n", 201))}, x(1), x(1), api.ErrLong, api.ErrLong},
	} {
		got, e := space.Bases(y.l, y.x, y.y)
		if e != y.e || e != api.OK && len(got) > 0 {
			t.Error("Bases", i, got, e)
		}
		got, e = space.Ancestors(y.l, y.y)
		if e != y.asked || e != api.OK && len(got) > 0 {
			t.Error("Ancestors", i, got, e)
		}
	}
}
