package decl_test

import (
	"bytes"
	"crypto/sha256"
	"fmt"
	"math"
	"slices"
	"strings"
	"testing"

	"hoarstone/api"
	"hoarstone/decl"
	"hoarstone/wire"
)

// it returns an item.
func it(kind, num int, text string, kids ...api.Item) api.Item {
	return api.Item{Kind: kind, Num: num, Text: text, Kids: kids}
}

// P5.6: items of types, by hand, and for types that are made; and types of items.
func TestTypeItems(t *testing.T) {
	a, b := x(1), x(2)
	for _, y := range []struct {
		t    api.Type
		want api.Item
	}{
		{nat(), it(22, 0, "")}, {tv(0), it(21, 0, "")}, {tv(999), it(21, 999, "")}, {self(0), it(25, 0, "")}, {self(7, nat(), tv(3)), it(25, 7, "", it(22, 0, ""), it(21, 3, ""))}, {data(a), it(24, 0, string(a[:]))}, {data(api.Sum{}, nat()), it(24, 0, string(make([]byte, 32)), it(22, 0, ""))},
		{fun(nat(), nat(), row()), it(23, 0, "", it(22, 0, ""), it(22, 0, ""), it(26, 0, ""))}, {fun(tv(1), nat(), open(0)), it(23, 0, "", it(21, 1, ""), it(22, 0, ""), it(26, 1, ""))}, {fun(nat(), tv(1), open(999, a, a, b)), it(23, 0, "", it(22, 0, ""), it(21, 1, ""), it(26, 1000, string(a[:])+string(a[:])+string(b[:])))}, {fun(nat(), nat(), row(api.Sum{}, b)), it(23, 0, "", it(22, 0, ""), it(22, 0, ""), it(26, 0, string(make([]byte, 32))+string(b[:])))},
	} {
		got, e := decl.TypeItem(y.t)
		is(t, "TypeItem "+shown(y.t), got, y.want, e, api.OK)
		back, e := decl.FromItem(y.want)
		is(t, "FromItem "+shown(y.t), back, y.t, e, api.OK)
	}
	text, e := wire.Print(must(decl.TypeItem(fun(nat(), nat(), row()))))
	is(t, "example 5", text, "23(22 22 26)", e, api.OK)
	r := seeded(9)
	l := zoo()
	for range 1000 {
		if u := (maker{r, full(), 1000, 1000, []int{0, 1, 2, 3}}).some(4); len(flat(u, 61)) <= 60 {
			l = append(l, u)
		}
	}
	for _, u := range l {
		got, e := decl.TypeItem(u)
		is(t, "TypeItem "+shown(u), got, plainItem(u), e, api.OK)
		back, e := decl.FromItem(got)
		is(t, "FromItem "+shown(u), back, u, e, api.OK)
	}
	for _, u := range append(round(), api.Type{}, tv(1000), api.Type{Kind: api.TFun}, sized(61), fun(nat(), nat(), row(b, a)), api.Type{Kind: api.TNat, Num: 1}) {
		got, e := decl.TypeItem(u)
		is(t, "TypeItem", got, api.Item{}, e, plainShape(u))
	}
}

// P5.6: items that are those of no type of the right shape, and items that are not right.
func TestFromItem(t *testing.T) {
	a, b := x(1), x(2)
	ref := string(a[:])
	n, w := it(22, 0, ""), it(26, 0, "")
	deep := it(24, 0, ref, n)
	for range 59 {
		deep = it(24, 0, ref, deep)
	}
	for i, y := range []api.Item{
		it(1, 0, ""), it(2, 0, ""), it(20, 0, ""), it(26, 0, ""), it(27, 0, ""), it(28, 0, ""), it(41, 1, "", it(27, 0, "")), it(63, 0, ""), it(3, 0, ""),
		it(21, 1000, ""), it(21, 1<<40, ""), it(21, 0, ref), it(21, 0, "a"), it(21, 0, "", n), it(21, 0, string(make([]byte, 32))), it(22, 1, ""), it(22, 0, ref), it(22, 0, "", n), it(22, 0, "\x00"),
		it(23, 0, ""), it(23, 0, "", n), it(23, 0, "", n, n), it(23, 0, "", n, w), it(23, 0, "", w), it(23, 0, "", n, n, n), it(23, 0, "", n, n, w, w), it(23, 0, "", n, n, n, w), it(23, 0, "", w, n, n), it(23, 0, "", n, w, n), it(23, 1, "", n, n, w), it(23, 0, ref, n, n, w), it(23, 0, "a", n, n, w), it(23, 0, "", n, n, it(26, 0, "", n)), it(23, 0, "", n, n, it(26, 0, "", w)), it(23, 0, "", n, n, it(25, 0, "")), it(23, 0, "", n, n, it(27, 0, "")), it(23, 0, "", n, n, it(21, 0, "")),
		it(23, 0, "", n, n, it(26, 1001, "")), it(23, 0, "", n, n, it(26, 1<<40, "")), it(23, 0, "", n, n, it(26, 0, ref[:31])), it(23, 0, "", n, n, it(26, 0, ref+"a")), it(23, 0, "", n, n, it(26, 0, ref+"\x00")), it(23, 0, "", n, n, it(26, 0, "\x00")), it(23, 0, "", n, n, it(26, 0, string(b[:])+ref)), it(23, 0, "", n, n, it(26, 0, strings.Repeat(ref, 17))), it(23, 0, "", n, n, it(26, 0, strings.Repeat("\x00", 4096))), it(23, 0, "", n, n, it(26, 0, strings.Repeat("\x00", 33))),
		it(24, 0, ""), it(24, 0, ref[:31]), it(24, 0, ref+"a"), it(24, 0, ref+"\x00"), it(24, 0, ref+ref), it(24, 1, ref), it(24, 0, "\x00"), it(24, 0, ref, n, n, n, n), it(24, 0, ref, w), it(24, 0, ref, it(2, 0, "")), it(24, 0, ref, it(24, 0, "")),
		it(25, 8, ""), it(25, 0, ref), it(25, 0, "\x00"), it(25, 0, "", n, n, n, n), it(25, 0, "", w), it(25, 0, "", it(22, 1, "")), deep, plainItem(sized(61)), plainItem(chain(200)),
	} {
		got, e := decl.FromItem(y)
		if is(t, "FromItem", got, api.Type{}, e, api.ErrForm); t.Failed() {
			t.Fatal(i)
		}
	}
	itself := it(24, 0, ref, n)
	itself.Kids[0] = itself
	for _, y := range []api.Item{{}, it(0, 0, ""), it(64, 0, ""), it(-1, 0, ""), it(22, -1, ""), it(21, 1<<40+1, ""), it(24, 0, strings.Repeat("a", 4097)), it(24, 0, ref, it(0, 0, "")), itself, it(24, 0, ref, times(5000, n)...), plainItem(chain(251))} {
		got, e := decl.FromItem(y)
		is(t, "FromItem", got, api.Type{}, e, wire.Check(y))
		if e == api.OK {
			t.Error("right")
		}
	}
	for _, y := range []api.Item{it(26, 1, ""), it(23, 0, "", n, n, it(26, 1000, strings.Repeat(ref, 16)))} {
		_, e := decl.FromItem(y)
		if (e == api.OK) != (y.Kind == 23) {
			t.Error(y.Kind, e)
		}
	}
}

// strict returns the group whose item this is, read part by part, and whether it is that of a code.
func strict(y api.Item) ([]api.Data, bool) {
	if y.Kind != 41 || y.Text != "" || y.Num != len(y.Kids) {
		return nil, false
	}
	var l []api.Data
	for _, k := range y.Kids {
		if k.Kind != 27 {
			return nil, false
		}
		d := api.Data{Unique: k.Text, Params: k.Num}
		for _, c := range k.Kids {
			if c.Kind != 28 || c.Num != 0 || c.Text != "" {
				return nil, false
			}
			var con []api.Type
			for _, f := range c.Kids {
				u, e := decl.FromItem(f)
				if e != api.OK {
					return nil, false
				}
				con = append(con, u)
			}
			d.Cons = append(d.Cons, con)
		}
		l = append(l, d)
	}
	if plainDatas(l) != api.OK {
		return nil, false
	}
	// All members are unlike, and of one part, and have the numbers that they have from the first one on.
	b := bondOf(l)
	n := b.numbers(0)
	for i := range l {
		if b.firsts[i] != i || len(n) != len(l) || n[i] != i {
			return nil, false
		}
	}
	return l, true
}

// readCode asks FromCode, and tells a test if it does not say what strict says.
func readCode(t *testing.T, b []byte) bool {
	t.Helper()
	got, e := decl.FromCode(b)
	y, _, want := wire.Decode(b)
	if want != api.OK {
		is(t, "FromCode", got, nil, e, want)
		return false
	}
	l, ok := strict(y)
	if !ok {
		is(t, "FromCode", got, nil, e, api.ErrForm)
		return false
	}
	is(t, "FromCode", got, l, e, api.OK)
	again, e := decl.Code(got, 0)
	is(t, "Code", again, b, e, api.OK)
	return true
}

// P5.6: groups of codes; and codes that are cut off, or changed anywhere.
func TestFromCode(t *testing.T) {
	r := seeded(10)
	read := 0
	for i, l := range groups(11, 400) {
		for k := range l {
			b := must(decl.Code(l, k))
			if !readCode(t, b) {
				t.Error("no code")
			}
			if len(b) > 300 || i%12 > 0 {
				continue
			}
			for n := range b {
				readCode(t, b[:n])
				for _, by := range []byte{1, 2, 64, 128, 255, byte(r.Uint32())} {
					changed := slices.Clone(b)
					changed[n] += by
					if readCode(t, changed) {
						read++
					}
				}
				readCode(t, slices.Concat(b[:n], b[n+1:]))
				readCode(t, slices.Concat(b[:n], []byte{byte(r.IntN(3))}, b[n:]))
			}
			readCode(t, append(slices.Clone(b), 0))
			readCode(t, append(slices.Clone(b), b...))
		}
	}
	if read < 300 {
		t.Error(read)
	}
	for _, b := range [][]byte{nil, {0}, {41}, {41, 0}, {27, 0}, {42, 0}, make([]byte, api.MaxBytes+1), {169, 1, 1, 27}, {169, 1, 1, 27, 0, 0}} {
		readCode(t, b)
	}
}

// P5.6: items that are those of no member: whatever could be written otherwise, or is no part.
func TestNoCodes(t *testing.T) {
	for _, y := range []struct {
		text string
		is   bool
	}{
		{`41:1(27)`, true}, {`41(27)`, false}, {`41:2(27)`, false}, {`41`, false}, {`41:1`, false}, {`40:1(27)`, false}, {`42:1(27)`, false}, {`41:1"a"(27)`, false}, {`27`, false}, {`41:1(28)`, false}, {`41:1(26)`, false},
		{`41:1(27"a")`, true}, {`41:1(27"abcdefghij")`, true}, {`41:1(27"abcdefghijk")`, false}, {`41:1(27"A")`, false}, {`41:1(27:3)`, true}, {`41:1(27:4)`, false}, {`41:1(27(28 28 28 28 28 28 28 28))`, true}, {`41:1(27(28 28 28 28 28 28 28 28 28))`, false}, {`41:1(27(28:1))`, false}, {`41:1(27(28"a"))`, false}, {`41:1(27(27))`, false}, {`41:1(27(22))`, false},
		{`41:1(27(28(22 22 22 22)))`, true}, {`41:1(27(28(22 22 22 22 22)))`, false}, {`41:1(27(28(22:1)))`, false}, {`41:1(27(28(21)))`, false}, {`41:1(27:1(28(21)))`, true}, {`41:1(27:1(28(21:1)))`, false}, {`41:1(27(28(25)))`, true}, {`41:1(27(28(25:1)))`, false}, {`41:1(27(28(25(22))))`, false}, {`41:1(27:1(28(25(22))))`, true}, {`41:1(27(28(23(22 22 26))))`, true}, {`41:1(27(28(23(22 22 26:1))))`, false}, {`41:1(27(28(23(22 22))))`, false}, {`41:1(27(28(24"a")))`, false},
		// Two that do not mention each other, one that is not mentioned, two that are alike, other numbers than from the first one on.
		{`41:2(27 27(28))`, false}, {`41:2(27(28(25:1)) 27)`, false}, {`41:2(27(28) 27(28(25)))`, false}, {`41:2(27(28(25:1)) 27(28(25)))`, false}, {`41:2(27(28(25:1) 28) 27(28(25)))`, true}, {`41:2(27(28(25:1)) 27(28(25) 28))`, true}, {`41:2(27(28(25)) 27(28(25:1) 28))`, false}, {`41:1(27(28(25:1)) 27(28(25) 28))`, false}, {`41:3(27(28(25:1)) 27(28(25:2)) 27(28(25) 28))`, true}, {`41:3(27(28(25:2)) 27(28(25) 28) 27(28(25:1)))`, false}, {`41:3(27(28(25:1 25:2)) 27(28(25)) 27(28(25) 28))`, true}, {`41:3(27(28(25:2 25:1)) 27(28(25)) 27(28(25) 28))`, false}, {`41:3(27(28(25:1 25:2)) 27(28(25)) 27(28(25)))`, false}, {`41:3(27(28(25:1)) 27(28(25) 28) 27(28(25)))`, false},
		{`41:9(27 27 27 27 27 27 27 27 27)`, false},
	} {
		b, e := wire.Encode(parsed(t, y.text))
		wants(t, y.text, e, api.OK)
		if readCode(t, b) != y.is {
			t.Error(y.text)
		}
	}
	// Types may be many only together with all others, and each for itself.
	for n, want := range map[int]api.Errno{40: api.OK, 41: api.ErrForm} {
		l := items(group(cons(append(times(4, times(4, sized(60))), fields(sized(n)))...)))
		b, e := wire.Encode(it(41, 1, "", l...))
		wants(t, "Encode", e, api.OK)
		_, e = decl.FromCode(b)
		wants(t, fmt.Sprint(n), e, want)
	}
}

// P5.6: codes and digests of abilities; and codes that are none.
func TestAbilityCode(t *testing.T) {
	for _, y := range []struct {
		a    api.Ability
		text string
	}{
		{api.Ability{}, `42`}, {api.Ability{Unique: "st"}, `42"st"`}, {ops(op(nat(), fun(nat(), nat(), row()))), `42(30(22 23(22 22 26)))`}, {api.Ability{Unique: "a", Ops: times(2, op(nat(), nat()))}, `42"a"(30(22 22) 30(22 22))`},
	} {
		b, e := decl.AbilityCode(y.a)
		want, f := wire.Encode(parsed(t, y.text))
		is(t, y.text, b, want, e, f)
	}
	r := seeded(12)
	l := abilities()
	for range 200 {
		l = append(l, maker{Rand: r, w: full()}.ability())
	}
	met := map[string]api.Ability{}
	for _, a := range l {
		b, e := decl.AbilityCode(a)
		want, f := wire.Encode(plainAbilityItem(a))
		is(t, "AbilityCode", b, want, e, f)
		s, e := decl.AbilitySum(a)
		is(t, "AbilitySum", s, sha256.Sum256(b), e, api.OK)
		back, e := decl.FromAbilityCode(b)
		is(t, "FromAbilityCode", back, a, e, api.OK)
		if other, is := met[string(b)]; is && !same(other, a) {
			t.Error("the same code")
		}
		met[string(b)] = a
	}
	far := fun(nat(), nat(), row(times(16, x(1))...))
	for range 28 {
		far = fun(far, nat(), row(times(16, x(1))...))
	}
	for _, y := range []struct {
		a    api.Ability
		want api.Errno
	}{
		{api.Ability{Unique: "A"}, api.ErrForm}, {ops(times(9, op(nat(), nat()))...), api.ErrMany}, {ops(op(tv(0), nat())), api.ErrNot}, {ops(op(nat(), api.Type{})), api.ErrRange}, {ops(op(round()[1], nat())), api.ErrMany}, {ops(times(4, op(far, far))...), api.ErrLong}, {ops(append(times(4, op(far, far)), op(nat(), self(0)))...), api.ErrNot},
	} {
		b, e := decl.AbilityCode(y.a)
		is(t, "AbilityCode", b, nil, e, y.want)
		s, e := decl.AbilitySum(y.a)
		is(t, "AbilitySum", s, api.Sum{}, e, y.want)
	}
}

// strictAbility returns the ability whose item this is, read part by part, and whether it is that of a code.
func strictAbility(y api.Item) (api.Ability, bool) {
	a := api.Ability{Unique: y.Text}
	for _, o := range y.Kids {
		if o.Kind != 30 || o.Num != 0 || o.Text != "" || len(o.Kids) != 2 {
			return api.Ability{}, false
		}
		from, e := decl.FromItem(o.Kids[0])
		to, f := decl.FromItem(o.Kids[1])
		if e != api.OK || f != api.OK {
			return api.Ability{}, false
		}
		a.Ops = append(a.Ops, op(from, to))
	}
	if y.Kind != 42 || y.Num != 0 || plainAbility(a) != api.OK {
		return api.Ability{}, false
	}
	return a, true
}

// readAbility asks FromAbilityCode, and tells a test if it does not say what strictAbility says.
func readAbility(t *testing.T, b []byte) bool {
	t.Helper()
	got, e := decl.FromAbilityCode(b)
	y, _, want := wire.Decode(b)
	if want != api.OK {
		is(t, "FromAbilityCode", got, api.Ability{}, e, want)
		return false
	}
	a, ok := strictAbility(y)
	if !ok {
		want = api.ErrForm
	}
	is(t, "FromAbilityCode", got, a, e, want)
	return ok
}

// P5.6: codes of abilities that are cut off, or changed anywhere.
func TestFromAbilityCode(t *testing.T) {
	r := seeded(13)
	l := abilities()[:3]
	for range 30 {
		l = append(l, maker{Rand: r, w: full()}.ability())
	}
	read := 0
	for _, a := range l {
		b := must(decl.AbilityCode(a))
		if !readAbility(t, b) {
			t.Error("no code")
		}
		for n := range b {
			readAbility(t, b[:n])
			for _, by := range []byte{1, 2, 64, 128, 255, byte(r.Uint32())} {
				changed := slices.Clone(b)
				changed[n] += by
				if readAbility(t, changed) {
					read++
				}
			}
			readAbility(t, slices.Concat(b[:n], b[n+1:]))
		}
		readAbility(t, append(slices.Clone(b), 0))
	}
	if read < 300 {
		t.Error(read)
	}
	for text, want := range map[string]bool{
		`42`: true, `41`: false, `42:1`: false, `42"A"`: false, `42(30)`: false, `42(30(22))`: false, `42(30(22 22 22))`: false, `42(30:1(22 22))`: false, `42(30"a"(22 22))`: false, `42(31(22 22))`: false, `42(28(22 22))`: false, `42(30(21 22))`: false, `42(30(22 25))`: false, `42(30(22 23(22 22 26:1)))`: false, `42(30(22 23(22 22)))`: false, `42(22)`: false, `30(22 22)`: false,
		`42(30(22 22) 30(22 22) 30(22 22) 30(22 22) 30(22 22) 30(22 22) 30(22 22) 30(22 22))`: true, `42(30(22 22) 30(22 22) 30(22 22) 30(22 22) 30(22 22) 30(22 22) 30(22 22) 30(22 22) 30(22 22))`: false, `41:1(27)`: false,
	} {
		b, e := wire.Encode(parsed(t, text))
		wants(t, text, e, api.OK)
		if readAbility(t, b) != want {
			t.Error(text)
		}
	}
	for _, b := range [][]byte{nil, {0}, {42}, make([]byte, api.MaxBytes+1)} {
		readAbility(t, b)
	}
}

// P5.6: digests of constructors and operations, and what has them.
func TestPlaces(t *testing.T) {
	refs := []api.Sum{{}, x(1), x(2), {31: 1}}
	met := map[api.Sum]bool{}
	for _, ref := range refs {
		for n := range 8 {
			c, e := decl.ConSum(ref, n)
			is(t, "ConSum", c, wired(t, it(32, n, string(ref[:]))), e, api.OK)
			o, e := decl.OpSum(ref, n)
			is(t, "OpSum", o, wired(t, it(33, n, string(ref[:]))), e, api.OK)
			met[c], met[o] = true, true
		}
		for _, n := range []int{-1, 8, 9, 63, math.MinInt, math.MaxInt} {
			c, e := decl.ConSum(ref, n)
			is(t, "ConSum", c, api.Sum{}, e, api.ErrRange)
			o, e := decl.OpSum(ref, n)
			is(t, "OpSum", o, api.Sum{}, e, api.ErrRange)
		}
	}
	if len(met) != 4*2*8 {
		t.Error(len(met))
	}
}

// found is where a digest was found.
type found struct {
	Ref api.Sum
	N   int
}

// findCon and findOp are FindCon and FindOp with one result.
func findCon(w api.World, s api.Sum) (found, api.Errno) {
	ref, n, e := decl.FindCon(w, s)
	return found{ref, n}, e
}
func findOp(w api.World, s api.Sum) (found, api.Errno) {
	ref, n, e := decl.FindOp(w, s)
	return found{ref, n}, e
}

// P5.6: constructors and operations are found by their digests, those that there are.
func TestFind(t *testing.T) {
	worlds := []api.World{full(), values(), {}, {Datas: knownDatas(60, 1, cons(times(8, fields())...)), Abilities: knownAbilities(60, 61, ops(times(8, op(nat(), nat()))...))}}
	for _, w := range worlds {
		for _, ref := range append([]api.Sum{{}, x(0), x(21), x(99), x(60), x(61), x(120)}, refsOf(w)[:min(len(refsOf(w)), 20)]...) {
			for n := range 8 {
				c, o := must(decl.ConSum(ref, n)), must(decl.OpSum(ref, n))
				d, isData := dataOf(w, ref)
				want, e := found{}, api.ErrNone
				if isData && n < len(d.Cons) {
					want, e = found{ref, n}, api.OK
				}
				got, f := findCon(w, c)
				is(t, "FindCon", got, want, f, e)
				got, f = findOp(w, c)
				is(t, "FindOp", got, found{}, f, api.ErrNone)
				want, e = found{}, api.ErrNone
				for _, a := range w.Abilities {
					if a.Sum == ref && n < len(a.Ability.Ops) {
						want, e = found{ref, n}, api.OK
					}
				}
				got, f = findOp(w, o)
				is(t, "FindOp", got, want, f, e)
				got, f = findCon(w, o)
				is(t, "FindCon", got, found{}, f, api.ErrNone)
			}
		}
		for _, s := range append(refsOf(w), api.Sum{})[:min(len(refsOf(w))+1, 20)] {
			got, e := findCon(w, s)
			is(t, "FindCon", got, found{}, e, api.ErrNone)
			got, e = findOp(w, s)
			is(t, "FindOp", got, found{}, e, api.ErrNone)
		}
	}
}

// refsOf returns all digests that are known.
func refsOf(w api.World) []api.Sum {
	var l []api.Sum
	for _, d := range w.Datas {
		l = append(l, d.Sum)
	}
	for _, a := range w.Abilities {
		l = append(l, a.Sum)
	}
	for _, k := range w.Terms {
		l = append(l, k.Sum)
	}
	return l
}

// P5.6: the bytes of a code are those of wire, whatever Unique and digests are in it.
func TestCodeBytes(t *testing.T) {
	a := x(7)
	l := group(named("ab", with(1, cons(fields(tv(0), data(a, nat()), fun(nat(), self(0, tv(0)), row(a)))))))
	want := slices.Concat([]byte{41 + 128, 1, 1, 27 + 128 + 64, 1, 2, 'a', 'b', 1, 28 + 128, 0, 3, 21, 0, 24 + 128 + 64, 0, 32}, a[:], []byte{1, 22, 0, 23 + 128, 0, 3, 22, 0, 25 + 128, 0, 1, 21, 0, 26 + 64, 0, 32}, a[:])
	b, e := decl.Code(l, 0)
	is(t, "Code", b, want, e, api.OK)
	s, e := decl.Sums(l)
	is(t, "Sums", s, []api.Sum{sha256.Sum256(want)}, e, api.OK)
	if !bytes.Equal(b, want) {
		t.Error(b)
	}
}
