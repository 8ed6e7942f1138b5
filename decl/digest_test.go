package decl_test

import (
	"crypto/sha256"
	"fmt"
	"slices"
	"testing"

	"hoarstone/api"
	"hoarstone/decl"
	"hoarstone/sum"
	"hoarstone/wire"
)

// What the chapter says of digests, written down once more.

// plainItem is TypeItem without its errors.
func plainItem(t api.Type) api.Item {
	y := api.Item{Kind: []int{0, 21, 22, 23, 24, 25}[t.Kind]}
	if t.Kind == api.TVar || t.Kind == api.TSelf {
		y.Num = t.Num
	}
	if t.Kind == api.TData {
		y.Text = string(t.Ref[:])
	}
	for _, kid := range t.Kids {
		y.Kids = append(y.Kids, plainItem(kid))
	}
	if t.Kind == api.TFun {
		r := api.Item{Kind: 26}
		if t.Row.Open {
			r.Num = 1 + t.Row.Tail
		}
		for _, a := range t.Row.List {
			r.Text += string(a[:])
		}
		y.Kids = append(y.Kids, r)
	}
	return y
}

// plainDataItem returns the item of a declaration.
func plainDataItem(d api.Data) api.Item {
	y := api.Item{Kind: 27, Num: d.Params, Text: d.Unique}
	for _, con := range d.Cons {
		c := api.Item{Kind: 28}
		for _, field := range con {
			c.Kids = append(c.Kids, plainItem(field))
		}
		y.Kids = append(y.Kids, c)
	}
	return y
}

// plainAbilityItem returns the item of an ability.
func plainAbilityItem(a api.Ability) api.Item {
	y := api.Item{Kind: 42, Text: a.Unique}
	for _, o := range a.Ops {
		y.Kids = append(y.Kids, api.Item{Kind: 30, Kids: []api.Item{plainItem(o.From), plainItem(o.To)}})
	}
	return y
}

// selves returns the Nums of all TSelfs of a member, in order.
func selves(d api.Data) []int {
	var l []int
	for _, t := range all(fieldTypes(group(d))) {
		if t.Kind == api.TSelf {
			l = append(l, t.Num)
		}
	}
	return l
}

// reselved returns a declaration in which something else stands for each TSelf.
func reselved(d api.Data, become func(t api.Type) api.Type) api.Data {
	var walk func(t api.Type) api.Type
	walk = func(t api.Type) api.Type {
		for i := range t.Kids {
			t.Kids[i] = walk(t.Kids[i])
		}
		if t.Kind == api.TSelf {
			return become(t)
		}
		return t
	}
	d = cut(d)
	for _, con := range d.Cons {
		for i := range con {
			con[i] = walk(con[i])
		}
	}
	return d
}

// renumbered returns a declaration in which members have other numbers.
func renumbered(d api.Data, number func(n int) int) api.Data {
	return reselved(d, func(t api.Type) api.Type {
		t.Num = number(t.Num)
		return t
	})
}

// shows returns what shows of a member in so many steps, the same for two of them, of whatever groups, just if the same shows.
func shows(l []api.Data, i, steps int, met map[[2]int]string) string {
	if steps == 0 {
		return ""
	}
	if s, is := met[[2]int{i, steps}]; is {
		return s
	}
	var mentioned []string
	for _, j := range selves(l[i]) {
		mentioned = append(mentioned, shows(l, j, steps-1, met))
	}
	d := cut(renumbered(l[i], func(int) int { return 0 }))
	s := fmt.Sprintf("%x", sha256.Sum256([]byte(fmt.Sprintf("%#v %q", d, mentioned))))
	met[[2]int{i, steps}] = s
	return s
}

// enough is more steps than members of two groups together, so that what does not show in them never does.
const enough = 2*api.MaxGroup + 1

// views returns what shows of the members of a group in enough steps.
func views(l []api.Data) []string {
	met := map[[2]int]string{}
	var all []string
	for i := range l {
		all = append(all, shows(l, i, enough, met))
	}
	return all
}

// plainAlike is Alike.
func plainAlike(l []api.Data) []int {
	all := views(l)
	var firsts []int
	for _, s := range all {
		firsts = append(firsts, slices.Index(all, s))
	}
	return firsts
}

// bond is a group with its first members, made members, and what they reach.
type bond struct {
	firsts []int
	made   []api.Data
	reach  [][]bool
}

// bondOf returns the bond of a group.
func bondOf(l []api.Data) bond {
	b := bond{firsts: plainAlike(l)}
	for i := range l {
		b.made = append(b.made, renumbered(l[b.firsts[i]], func(n int) int { return b.firsts[n] }))
		b.reach = append(b.reach, make([]bool, len(l)))
		for _, j := range selves(b.made[i]) {
			b.reach[i][j] = true
		}
	}
	for k := range l {
		for i := range l {
			for j := range l {
				b.reach[i][j] = b.reach[i][j] || b.reach[i][k] && b.reach[k][j]
			}
		}
	}
	return b
}

// part returns the part of a first member.
func (b bond) part(i int) []int {
	var l []int
	for j := range b.made {
		if j == b.firsts[j] && (j == i || b.reach[i][j] && b.reach[j][i]) {
			l = append(l, j)
		}
	}
	return l
}

// parts is Parts.
func (b bond) parts() [][]int {
	var left, taken [][]int
	for i := range b.made {
		if p := b.part(i); b.firsts[i] == i && p[0] == i {
			left = append(left, p)
		}
	}
	for len(left) > 0 {
		// left rises by the least members.
		at := slices.IndexFunc(left, func(p []int) bool {
			may := append(slices.Concat(taken...), p...)
			for _, i := range p {
				for _, j := range selves(b.made[i]) {
					if !slices.Contains(may, j) {
						return false
					}
				}
			}
			return true
		})
		taken = append(taken, left[at])
		left = slices.Delete(left, at, at+1)
	}
	return taken
}

// numbers returns the members of the part of a first member, by their numbers from it on.
func (b bond) numbers(i int) []int {
	l := []int{i}
	for done := 0; done < len(l); done++ {
		for _, j := range selves(b.made[l[done]]) {
			if slices.Contains(b.part(i), j) && !slices.Contains(l, j) {
				l = append(l, j)
			}
		}
	}
	return l
}

// plainCodes returns the codes of all members, and their digests: none if one of them would be too long.
func plainCodes(l []api.Data) ([][]byte, []api.Sum) {
	b := bondOf(l)
	codes, digests := make([][]byte, len(l)), make([]api.Sum, len(l))
	for _, p := range b.parts() {
		for _, i := range p {
			own := b.numbers(i)
			y := api.Item{Kind: 41, Num: len(p)}
			for _, j := range own {
				y.Kids = append(y.Kids, plainDataItem(reselved(b.made[j], func(t api.Type) api.Type {
					if k := slices.Index(own, t.Num); k >= 0 {
						t.Num = k
						return t
					}
					return data(digests[t.Num], t.Kids...)
				})))
			}
			code, e := wire.Encode(y)
			if e != api.OK {
				return nil, nil
			}
			codes[i] = code
		}
		for _, i := range p {
			digests[i] = sha256.Sum256(codes[i])
		}
	}
	for i, first := range b.firsts {
		codes[i], digests[i] = codes[first], digests[first]
	}
	return codes, digests
}

// plainOpen is Open.
func plainOpen(l []api.Data) []api.KnownData {
	b := bondOf(l)
	_, digests := plainCodes(l)
	var known []api.KnownData
	for i, first := range b.firsts {
		if i == first {
			known = append(known, api.KnownData{Sum: digests[i], Data: reselved(b.made[i], func(t api.Type) api.Type { return data(digests[t.Num], t.Kids...) })})
		}
	}
	return known
}

// crowd returns a group in which members of another one come several times, and mention any of those that stand for the same one, in any order.
func crowd(m maker, l []api.Data) []api.Data {
	of := make([]int, len(l))
	for i := range l {
		of[i] = i
	}
	for len(of) < api.MaxGroup && m.IntN(3) > 0 {
		of = append(of, m.IntN(len(l)))
	}
	m.Shuffle(len(of), func(i, j int) { of[i], of[j] = of[j], of[i] })
	var all []api.Data
	for _, i := range of {
		all = append(all, renumbered(l[i], func(n int) int {
			for {
				if k := m.IntN(len(of)); of[k] == n {
					return k
				}
			}
		}))
	}
	return all
}

// small returns a group of members of few kinds, of which many are alike, or nearly.
func small(m maker, most int) []api.Data {
	n := 1 + m.IntN(most)
	var l []api.Data
	for range n {
		var d api.Data
		for range m.IntN(3) {
			var con []api.Type
			for range m.IntN(3) {
				con = append(con, []api.Type{nat(), self(m.IntN(n)), self(m.IntN(n)), data(x(1)), fun(self(m.IntN(n)), self(m.IntN(n)), row())}[m.IntN(5)])
			}
			d.Cons = append(d.Cons, con)
		}
		l = append(l, d)
	}
	return l
}

// groups returns groups of all kinds.
func groups(seed uint64, n int) [][]api.Data {
	l := datas()
	m := maker{Rand: seeded(seed), w: full()}
	for i := range n {
		var g []api.Data
		if i%2 == 0 {
			g = m.group(5)
		} else {
			g = small(m, 8)
		}
		if m.IntN(2) == 0 {
			g = crowd(m, g)
		}
		if plainDatas(g) == api.OK {
			l = append(l, g)
		}
	}
	return l
}

// P5.6: which members are alike, parts, codes, digests, and what is opened are what the chapter says, for groups that are made.
func TestDigestsMade(t *testing.T) {
	copies, parts, large := 0, 0, 0
	for _, l := range groups(8, 3000) {
		b := bondOf(l)
		firsts, e := decl.Alike(l)
		is(t, "Alike", firsts, b.firsts, e, api.OK)
		p, e := decl.Parts(l)
		is(t, "Parts", p, b.parts(), e, api.OK)
		codes, digests := plainCodes(l)
		for i := range l {
			code, e := decl.Code(l, i)
			is(t, "Code", code, codes[i], e, api.OK)
		}
		s, e := decl.Sums(l)
		is(t, "Sums", s, digests, e, api.OK)
		k, e := decl.Open(l)
		is(t, "Open", k, plainOpen(l), e, api.OK)
		for i := range l {
			if firsts[i] != i {
				copies++
			}
		}
		for _, part := range p {
			parts++
			if len(part) > 1 {
				large++
			}
		}
		if t.Failed() {
			t.Fatalf("%v", l)
		}
	}
	if copies < 1000 || parts < 3000 || large < 150 {
		t.Error(copies, parts, large)
	}
}

// parsed returns the item of a text.
func parsed(t *testing.T, s string) api.Item {
	t.Helper()
	y, i, e := wire.Parse(s)
	if e != api.OK {
		t.Fatalf("%s: %v at %d", s, e, i)
	}
	return y
}

// P5.6: the examples of the chapter, and some more, by hand.
func TestCodeByHand(t *testing.T) {
	some, none := fields(), api.Data{}
	for i, y := range []struct {
		l     []api.Data
		codes []string
	}{
		{group(list(0)), []string{`41:1(27:1(28 28(21 25(21))))`}},
		{group(none), []string{`41:1(27)`}}, {group(named("unit", with(2, cons(some)))), []string{`41:1(27:2"unit"(28))`}},
		{group(cons(fields(self(0)))), []string{`41:1(27(28(25)))`}},
		{group(cons(fields(self(1))), cons(fields(self(0)))), []string{`41:1(27(28(25)))`, `41:1(27(28(25)))`}},
		{group(cons(fields(self(1))), cons(fields(self(0)), some)), []string{`41:2(27(28(25:1)) 27(28(25) 28))`, `41:2(27(28(25:1) 28) 27(28(25)))`}},
		{group(with(3, cons(fields(tv(2), tv(0)), fields(fun(tv(1), nat(), row()))))), []string{`41:1(27:3(28(21:2 21) 28(23(21:1 22 26))))`}},
		// Three in a ring, which are told by the last one alone.
		{group(cons(fields(self(1))), cons(fields(self(2))), cons(fields(self(0)), some)), []string{`41:3(27(28(25:1)) 27(28(25:2)) 27(28(25) 28))`, `41:3(27(28(25:1)) 27(28(25:2) 28) 27(28(25)))`, `41:3(27(28(25:1) 28) 27(28(25:2)) 27(28(25)))`}},
		// Members get their numbers as they come up: that of the second field's argument before that of what it mentions, constructor by constructor.
		{group(cons(fields(self(0)), fields(nat(), self(3, self(2))), fields(self(1))), cons(fields(self(0), self(0))), cons(fields(self(0))), with(1, cons(fields(tv(0), self(0))))), []string{
			`41:4(27(28(25) 28(22 25:1(25:2)) 28(25:3)) 27:1(28(21 25)) 27(28(25)) 27(28(25 25)))`,
			`41:4(27(28(25:1 25:1)) 27(28(25:1) 28(22 25:2(25:3)) 28(25)) 27:1(28(21 25:1)) 27(28(25:1)))`,
			`41:4(27(28(25:1)) 27(28(25:1) 28(22 25:2(25)) 28(25:3)) 27:1(28(21 25:1)) 27(28(25:1 25:1)))`,
			`41:4(27:1(28(21 25:1)) 27(28(25:1) 28(22 25(25:2)) 28(25:3)) 27(28(25:1)) 27(28(25:1 25:1)))`,
		}},
		// Numbers are given through the members by their numbers, not through what each one mentions first.
		{group(cons(fields(self(1), self(2))), cons(fields(self(3))), cons(fields(self(0)), some), cons(fields(self(0)))), []string{
			`41:4(27(28(25:1 25:2)) 27(28(25:3)) 27(28(25) 28) 27(28(25)))`, `41:4(27(28(25:1)) 27(28(25:2)) 27(28(25 25:3)) 27(28(25:2) 28))`, `41:4(27(28(25:1) 28) 27(28(25:2 25)) 27(28(25:3)) 27(28(25:1)))`, `41:4(27(28(25:1)) 27(28(25:2 25:3)) 27(28(25)) 27(28(25:1) 28))`,
		}},
	} {
		s, e := decl.Sums(y.l)
		wants(t, "Sums", e, api.OK)
		for k, text := range y.codes {
			code, e := decl.Code(y.l, k)
			want, f := wire.Encode(parsed(t, text))
			if is(t, text, code, want, e, f); s[k] != sum.Of(want) {
				t.Error(i, k)
			}
			back, e := decl.FromCode(code)
			wants(t, text, e, api.OK)
			again, e := wire.Encode(api.Item{Kind: 41, Num: len(back), Kids: items(back)})
			is(t, text, again, want, e, api.OK)
		}
	}
	// Example 3: what is beyond the part is known by its digest.
	l := group(cons(fields(self(1))), none)
	p, e := decl.Parts(l)
	is(t, "Parts", p, [][]int{{1}, {0}}, e, api.OK)
	s := sums(t, l)
	if want := wired(t, api.Item{Kind: 41, Num: 1, Kids: []api.Item{{Kind: 27}}}); s[1] != want {
		t.Error(s)
	}
	if want := wired(t, api.Item{Kind: 41, Num: 1, Kids: []api.Item{{Kind: 27, Kids: []api.Item{{Kind: 28, Kids: []api.Item{{Kind: 24, Text: string(s[1][:])}}}}}}}); s[0] != want {
		t.Error(s)
	}
	for i := range l {
		w := api.World{Datas: must(decl.Open(l))}
		got, e := decl.Inhabited(w, data(s[i]))
		is(t, "Inhabited", got, false, e, api.OK)
	}
}

// items returns the items of declarations.
func items(l []api.Data) []api.Item {
	var all []api.Item
	for _, d := range l {
		all = append(all, plainDataItem(d))
	}
	return all
}

// must returns a result where no error is expected.
func must[T any](got T, e api.Errno) T {
	if e != api.OK {
		panic(e)
	}
	return got
}

// wired returns the digest of an item.
func wired(t *testing.T, y api.Item) api.Sum {
	t.Helper()
	b, e := wire.Encode(y)
	if e != api.OK {
		t.Fatal(e)
	}
	return sha256.Sum256(b)
}

// P5.6: which members are alike, and the parts, by hand.
func TestAlikeAndParts(t *testing.T) {
	some := fields()
	for i, y := range []struct {
		l     []api.Data
		alike []int
		parts [][]int
	}{
		{group(api.Data{}), []int{0}, [][]int{{0}}}, {times(8, api.Data{}), times(8, 0), [][]int{{0}}}, {group(cons(), cons(some), cons(), cons(some)), []int{0, 1, 0, 1}, [][]int{{0}, {1}}},
		{group(named("a", cons()), named("b", cons()), named("a", cons()), cons()), []int{0, 1, 0, 3}, [][]int{{0}, {1}, {3}}}, {group(with(1, cons()), cons(), with(1, cons())), []int{0, 1, 0}, [][]int{{0}, {1}}},
		{group(cons(fields(self(1))), cons(fields(self(0)))), []int{0, 0}, [][]int{{0}}}, {group(cons(fields(self(1))), cons(fields(self(2))), cons(fields(self(0)))), []int{0, 0, 0}, [][]int{{0}}}, {group(cons(fields(self(0))), cons(fields(self(0))), cons(fields(self(2)))), []int{0, 0, 0}, [][]int{{0}}},
		{group(cons(fields(self(1))), cons(fields(self(0)), some)), []int{0, 1}, [][]int{{0, 1}}}, {group(cons(fields(self(1))), api.Data{}), []int{0, 1}, [][]int{{1}, {0}}}, {group(cons(fields(self(1))), cons(fields(self(2))), api.Data{}), []int{0, 1, 2}, [][]int{{2}, {1}, {0}}},
		// The copy of what is mentioned is mentioned by its first one.
		{group(api.Data{}, cons(fields(self(2))), api.Data{}, cons(fields(self(0)))), []int{0, 1, 0, 1}, [][]int{{0}, {1}}}, {group(cons(fields(self(3))), api.Data{}, cons(fields(self(1))), api.Data{}), []int{0, 1, 0, 1}, [][]int{{1}, {0}}},
		// What shows only behind several steps.
		{group(cons(fields(self(1))), cons(fields(self(2))), cons(fields(self(3))), cons(fields(self(4))), cons(fields(self(5))), cons(fields(self(6))), cons(fields(self(7))), api.Data{}), []int{0, 1, 2, 3, 4, 5, 6, 7}, [][]int{{7}, {6}, {5}, {4}, {3}, {2}, {1}, {0}}},
		{group(cons(fields(self(1))), cons(fields(self(2))), cons(fields(self(3))), cons(fields(self(0))), cons(fields(self(5))), cons(fields(self(6))), cons(fields(self(7))), cons(fields(self(4)))), times(8, 0), [][]int{{0}}},
		{group(cons(fields(self(1))), cons(fields(self(2))), cons(fields(self(3))), cons(fields(self(0)), some), cons(fields(self(5))), cons(fields(self(6))), cons(fields(self(7))), cons(fields(self(4)), some)), []int{0, 1, 2, 3, 0, 1, 2, 3}, [][]int{{0, 1, 2, 3}}},
		{group(cons(fields(self(1))), cons(fields(self(2))), cons(fields(self(3))), cons(fields(self(0)), some), cons(fields(self(5))), cons(fields(self(6))), cons(fields(self(7))), cons(fields(self(4)), some, some)), []int{0, 1, 2, 3, 4, 5, 6, 7}, [][]int{{0, 1, 2, 3}, {4, 5, 6, 7}}},
		// What is mentioned at other places, in arguments, in functions, in a second constructor; and what differs around it.
		{group(cons(fields(self(2), self(3))), cons(fields(self(3), self(2))), cons(), cons(some)), []int{0, 1, 2, 3}, [][]int{{2}, {3}, {0}, {1}}}, {group(cons(fields(self(4, self(2)))), cons(fields(self(4, self(3)))), cons(), cons(some), with(1, cons())), []int{0, 1, 2, 3, 4}, [][]int{{2}, {3}, {4}, {0}, {1}}}, {group(cons(fields(self(4, self(2)))), cons(fields(self(4, self(3)))), cons(), cons(), with(1, cons())), []int{0, 0, 2, 2, 4}, [][]int{{2}, {4}, {0}}},
		{group(cons(fields(fun(nat(), self(1), row()))), cons(fields(fun(nat(), self(0), row(x(1)))))), []int{0, 1}, [][]int{{0, 1}}}, {group(cons(fields(fun(nat(), self(1), row(x(1))))), cons(fields(fun(nat(), self(0), row(x(1)))))), []int{0, 0}, [][]int{{0}}}, {group(cons(fields(data(x(1), self(1)))), cons(fields(data(x(2), self(0))))), []int{0, 1}, [][]int{{0, 1}}}, {group(with(2, cons(fields(tv(0)))), with(2, cons(fields(tv(1))))), []int{0, 1}, [][]int{{0}, {1}}}, {group(cons(fields(nat(), nat())), cons(fields(nat()), fields(nat())), cons(fields(), fields(nat(), nat()))), []int{0, 1, 2}, [][]int{{0}, {1}, {2}}},
		{group(cons(fields(self(1), self(1))), cons(fields(self(0), self(1)))), []int{0, 0}, [][]int{{0}}}, {group(with(1, cons(fields(self(1, tv(0))))), with(1, cons(fields(self(0, nat()))))), []int{0, 1}, [][]int{{0, 1}}},
		// Parts in order: each time the one with the least member of those that can be taken.
		{group(cons(fields(self(3))), cons(fields(self(0)), some), cons(some), cons(fields(self(3)), some, some)), []int{0, 1, 2, 3}, [][]int{{2}, {3}, {0}, {1}}}, {group(cons(fields(self(2), self(3))), cons(some), cons(fields(self(0))), cons(fields(self(1)))), []int{0, 1, 2, 3}, [][]int{{1}, {3}, {0, 2}}}, {group(cons(fields(self(5))), cons(fields(self(2))), cons(fields(self(1)), some), cons(fields(self(1), self(4))), cons(fields(self(3)), some, some), named("z", cons())), []int{0, 1, 2, 3, 4, 5}, [][]int{{1, 2}, {3, 4}, {5}, {0}}},
		{group(cons(fields(self(7))), cons(fields(self(7)), some), cons(some), cons(fields(self(2)), some), cons(fields(self(3), self(0))), cons(fields(self(6))), cons(fields(self(5)), some), named("z", cons())), []int{0, 1, 2, 3, 4, 5, 6, 7}, [][]int{{2}, {3}, {5, 6}, {7}, {0}, {1}, {4}}},
	} {
		firsts, e := decl.Alike(y.l)
		is(t, fmt.Sprint("Alike ", i), firsts, y.alike, e, api.OK)
		p, e := decl.Parts(y.l)
		is(t, fmt.Sprint("Parts ", i), p, y.parts, e, api.OK)
	}
}

// wide returns a declaration whose code is longer than may be written.
func wide() api.Data {
	f := nat()
	for range 29 {
		f = fun(f, nat(), row(times(16, x(1))...))
	}
	return cons(times(4, f), times(2, f))
}

// P5.6: the errors, in their order.
func TestCodeErrors(t *testing.T) {
	for _, y := range []struct {
		l    []api.Data
		want api.Errno
	}{
		{nil, api.ErrMany}, {times(9, cons()), api.ErrMany}, {group(cons(fields(tv(0)))), api.ErrNot}, {group(named("A", cons())), api.ErrForm}, {group(with(4, cons())), api.ErrRange}, {group(cons(fields(fun(nat(), nat(), row(x(2), x(1)))))), api.ErrOrder}, {group(wide(), cons(fields(self(1, nat())))), api.ErrMany}, {group(cons(fields(round()[0]))), api.ErrMany},
	} {
		for _, i := range []int{-1, 0, 1, 8} {
			code, e := decl.Code(y.l, i)
			is(t, "Code", code, nil, e, y.want)
		}
		firsts, e := decl.Alike(y.l)
		is(t, "Alike", firsts, nil, e, y.want)
		p, e := decl.Parts(y.l)
		is(t, "Parts", p, nil, e, y.want)
		s, e := decl.Sums(y.l)
		is(t, "Sums", s, nil, e, y.want)
		k, e := decl.Open(y.l)
		is(t, "Open", k, nil, e, y.want)
	}
	for _, i := range []int{-1, 1, 2, 8, -1 << 63, 1<<63 - 1} {
		for _, l := range [][]api.Data{group(cons()), group(wide())} {
			code, e := decl.Code(l, i)
			is(t, "Code", code, nil, e, api.ErrNot)
		}
	}
	// Too long are the code of the member, or those of members of parts before.
	small := cons()
	for i, y := range []struct {
		l    []api.Data
		want []api.Errno
	}{
		{group(wide()), []api.Errno{api.ErrLong}}, {group(wide(), small), []api.Errno{api.ErrLong, api.ErrLong}}, {group(small, wide()), []api.Errno{api.OK, api.ErrLong}}, {group(cons(fields(self(1))), wide()), []api.Errno{api.ErrLong, api.ErrLong}},
		{group(cons(fields(self(1))), cons(append(wide().Cons, fields(self(0)))...), small), []api.Errno{api.ErrLong, api.ErrLong, api.ErrLong}}, {group(small, cons(fields(self(2))), cons(append(wide().Cons, fields(self(1)))...), cons(fields())), []api.Errno{api.OK, api.ErrLong, api.ErrLong, api.ErrLong}}, {group(cons(fields(self(2))), small, wide()), []api.Errno{api.ErrLong, api.OK, api.ErrLong}},
	} {
		_, e := decl.Parts(y.l)
		wants(t, "Parts", e, api.OK)
		for k, want := range y.want {
			if code, e := decl.Code(y.l, k); e != want || (want == api.OK) != (len(code) > 0) {
				t.Error(i, k, e)
			}
		}
		worst := slices.Max(y.want)
		s, e := decl.Sums(y.l)
		is(t, "Sums", s, nil, e, worst)
		k, e := decl.Open(y.l)
		is(t, "Open", k, nil, e, worst)
	}
}
