package wire_test

import (
	"math/big"
	"regexp"
	"slices"
	"strings"
	"testing"

	"hoarstone/api"
	"hoarstone/wire"
)

var (
	decimal = regexp.MustCompile(`^[0-9]*`)
	quoted  = regexp.MustCompile(`^"(?:[ !#-\[\]-~]|\\(?:[01][0-9a-f]|22|5c|7f|[89a-f][0-9a-f]))*`)
	sign    = regexp.MustCompile(`\\..|.`)
	cutSign = regexp.MustCompile(`^\\[0-9a-f]?$`)
)

// judgeText tells the first error of a text, and its index. It reads with a number for the level.
func judgeText(s string) (int, api.Errno) {
	if len(s) > 65536 {
		return 0, api.ErrLong
	}
	at, level, begun := 0, 1, 0
	for {
		switch {
		case level > 250:
			return at, api.ErrLong
		case begun == 5000:
			return at, api.ErrMany
		}
		begun++
		to, e := judgeFront(s, at)
		if e != api.OK {
			return to, e
		}
		at = to
		if strings.HasPrefix(s[at:], "(") {
			at++
			level++
			continue
		}
		for level > 1 && strings.HasPrefix(s[at:], ")") {
			at++
			level--
		}
		switch {
		case level == 1 && at == len(s):
			return 0, api.OK
		case level == 1 || !strings.HasPrefix(s[at:], " "):
			return at, api.ErrForm
		}
		at++
	}
}

// judgeFront tells where what comes before the Kids of an item ends, or its error, and the index of it.
func judgeFront(s string, at int) (int, api.Errno) {
	to, e := judgeDecimal(s, at, 1, 63, api.ErrRange)
	if e == api.OK && strings.HasPrefix(s[to:], ":") {
		to, e = judgeDecimal(s, to+1, 1, 1<<40, api.ErrForm)
	}
	if e != api.OK || !strings.HasPrefix(s[to:], `"`) {
		return to, e
	}
	text := quoted.FindString(s[to:])
	end := to + len(text)
	switch {
	case end == len(s), cutSign.MatchString(s[end:]):
		return len(s), api.ErrForm
	case s[end] != '"':
		return end, api.ErrForm
	case text == `"`:
		return to, api.ErrForm
	case len(sign.FindAllString(text, -1)) > 4097:
		return to, api.ErrLong
	}
	return end + 1, api.OK
}

// judgeDecimal tells where a decimal number ends, or its error, and the index of it.
func judgeDecimal(s string, at int, least, most int64, below api.Errno) (int, api.Errno) {
	digits := decimal.FindString(s[at:])
	n, ok := new(big.Int).SetString(digits, 10)
	switch {
	case !ok, digits[0] == '0' && digits != "0":
		return at, api.ErrForm
	case n.Cmp(big.NewInt(most)) > 0:
		return at, api.ErrRange
	case n.Cmp(big.NewInt(least)) < 0:
		return at, below
	}
	return at + len(digits), api.OK
}

// parses asks whether Parse tells of a text what judgeText does, and reads what has this text.
func parses(t *testing.T, s string) {
	t.Helper()
	i, e := judgeText(s)
	if x, at, f := wire.Parse(s); at != i || f != e || e != api.OK && !isZero(x) || e == api.OK && plainText(x) != s {
		t.Errorf("Parse %.60q: %d at %d instead of %d at %d: %.60s", s, f, at, e, i, plainText(x))
	}
}

// P2.4: texts of items.
func TestPrint(t *testing.T) {
	for _, x := range []struct {
		x    api.Item
		want string
	}{
		{leaf(3, 0), `3`},
		{leaf(63, 1<<40), `63:1099511627776`},
		{api.Item{Kind: 3, Num: 300, Text: `a"`}, `3:300"a\22"`},
		{node(leaf(2, 0), leaf(2, 5)), `1(2 2:5)`},
		{node(node(leaf(4, 0)), said("b"), leaf(5, 0)), `1(1(4) 1"b" 5)`},
		{api.Item{Kind: 10, Num: 9, Text: "(", Kids: []api.Item{leaf(1, 0)}}, `10:9"("(1)`},
		{api.Item{Kind: 1, Kids: []api.Item{}}, `1`},
		{said("\x00\n\x1f !\"#/0:@AZ[\\]`az{|}~\x7f\x80\xaf\xff"), `1"\00\0a\1f !\22#/0:@AZ[\5c]` + "`" + `az{|}~\7f\80\af\ff"`},
		{said("é"), `1"\c3\a9"`},
	} {
		if s := shown(t, x.x); s != x.want {
			t.Error(s, x.want)
		}
		if y := parse(t, x.want); !same(y, x.x) {
			t.Error(x.want, plainText(y))
		}
	}
}

// P2.4: each byte of a Text stands for itself, or is written in one other way, and read in no other one.
func TestBytesOfTexts(t *testing.T) {
	const digits = "0123456789abcdef"
	for n := range 256 {
		b := byte(n)
		raw := `1"` + string([]byte{b}) + `"`
		told := `1"\` + string([]byte{digits[b/16], digits[b%16]}) + `"`
		want, other, at := told, raw, 2
		if n >= 32 && n <= 126 && n != '"' && n != '\\' {
			want, other = raw, told
		}
		if s := shown(t, said(string([]byte{b}))); s != want {
			t.Error(n, s)
		}
		if x := parse(t, want); !same(x, said(string([]byte{b}))) {
			t.Error(n, plainText(x))
		}
		if b == '"' { // the Text is empty
			at = 1
		}
		if x, i, e := wire.Parse(other); !isZero(x) || i != at || e != api.ErrForm {
			t.Error(n, plainText(x), i, e)
		}
	}
}

// P2.4: each error of texts, in their order, with its index.
func TestParseErrors(t *testing.T) {
	chain := strings.Repeat("1(", 250)
	many := "1(2" + strings.Repeat(" 2", 4998)
	corner := "1(" + strings.Repeat("2 ", 4750) + chain[:249*2] // the 5001st item is on level 251
	nines := strings.Repeat("9", 60000)
	x4096 := strings.Repeat("x", 4096)
	for i, x := range []struct {
		s  string
		at int
		e  api.Errno
	}{
		{``, 0, api.ErrForm}, {` 1`, 0, api.ErrForm}, {`x`, 0, api.ErrForm}, {`-1`, 0, api.ErrForm}, {`(1)`, 0, api.ErrForm}, {`:1`, 0, api.ErrForm}, {`"a"`, 0, api.ErrForm}, {`é`, 0, api.ErrForm},
		// Numbers.
		{`03`, 0, api.ErrForm}, {`00`, 0, api.ErrForm}, {`064`, 0, api.ErrForm}, {`0x`, 0, api.ErrRange}, {`0`, 0, api.ErrRange}, {`64`, 0, api.ErrRange}, {`63`, 0, api.OK}, {`100x`, 0, api.ErrRange}, {nines, 0, api.ErrRange}, {`0` + nines, 0, api.ErrForm},
		{`18446744073709551617`, 0, api.ErrRange}, {`1:18446744073709551617`, 2, api.ErrRange},
		{`1:`, 2, api.ErrForm}, {`1:x`, 2, api.ErrForm}, {`1:"a"`, 2, api.ErrForm}, {`1:-1`, 2, api.ErrForm}, {`1:+1`, 2, api.ErrForm}, {`1::1`, 2, api.ErrForm}, {`1:0`, 2, api.ErrForm}, {`1:00`, 2, api.ErrForm}, {`1:01`, 2, api.ErrForm}, {`1:0(`, 2, api.ErrForm},
		{`1:1099511627776`, 0, api.OK}, {`1:1099511627777`, 2, api.ErrRange}, {`1:10995116277760`, 2, api.ErrRange}, {`1:` + nines, 2, api.ErrRange}, {`1:0` + nines, 2, api.ErrForm},
		{`64:0`, 0, api.ErrRange}, {`1:1:1`, 3, api.ErrForm}, {`1(2:)`, 4, api.ErrForm}, {`1(2 64)`, 4, api.ErrRange},
		// Texts.
		{`1""`, 1, api.ErrForm}, {`1"" `, 1, api.ErrForm}, {`12:3""`, 4, api.ErrForm}, {`1"`, 2, api.ErrForm}, {`1"a`, 3, api.ErrForm}, {`1"a\`, 4, api.ErrForm}, {`1"a\2`, 5, api.ErrForm}, {`1"a\22`, 6, api.ErrForm}, {`1"a\22"`, 0, api.OK},
		{`1"a\g`, 3, api.ErrForm}, {`1"a\2g`, 3, api.ErrForm}, {`1"\"`, 2, api.ErrForm}, {`1"\2"`, 2, api.ErrForm}, {`1"\\"`, 2, api.ErrForm}, {`1"\0A"`, 2, api.ErrForm}, {`1"\A0"`, 2, api.ErrForm}, {`1"\A`, 2, api.ErrForm}, {`1"\+1"`, 2, api.ErrForm}, {`1"\é"`, 2, api.ErrForm}, {"1\"\\2\xc3", 2, api.ErrForm}, {"1\"\\\xc3", 2, api.ErrForm},
		{`1"\61"`, 2, api.ErrForm}, {`1"\61`, 2, api.ErrForm}, {`1"\20"`, 2, api.ErrForm}, {`1"\7e"`, 2, api.ErrForm}, {`1"ab\41"`, 4, api.ErrForm}, {`1"\00\41`, 5, api.ErrForm},
		{"1\"\n\"", 2, api.ErrForm}, {"1\"a\x7f\"", 3, api.ErrForm}, {`1"é"`, 2, api.ErrForm}, {"1\"\x1f", 2, api.ErrForm}, {`1"a"b`, 4, api.ErrForm}, {`1"a"(2"`, 7, api.ErrForm},
		{`1"` + x4096 + `"`, 0, api.OK}, {`1"` + x4096 + `x"`, 1, api.ErrLong}, {`1"` + x4096 + `x`, 4099, api.ErrForm}, {`1"` + x4096 + "x\n", 4099, api.ErrForm}, {`1"` + x4096 + `x\61"`, 4099, api.ErrForm},
		{`1"` + strings.Repeat(`\00`, 4096) + `"`, 0, api.OK}, {`2(1"` + strings.Repeat(`\00`, 4097) + `"x`, 3, api.ErrLong},
		// Kids.
		{`1()`, 2, api.ErrForm}, {`1(`, 2, api.ErrForm}, {`1( 2)`, 2, api.ErrForm}, {`1(2  3)`, 4, api.ErrForm}, {`1(2 )`, 4, api.ErrForm}, {`1(2`, 3, api.ErrForm}, {`1(2,3)`, 3, api.ErrForm}, {`1(2(3)4)`, 6, api.ErrForm}, {`1(2(3)`, 6, api.ErrForm}, {`1(2"a":3)`, 6, api.ErrForm}, {`1(2:3`, 5, api.ErrForm},
		{`1(2)(3)`, 4, api.ErrForm}, {`1(2)"a"`, 4, api.ErrForm}, {`1(2):3`, 4, api.ErrForm}, {`1(2))`, 4, api.ErrForm}, {`1 `, 1, api.ErrForm}, {`1 2`, 1, api.ErrForm}, {`1)`, 1, api.ErrForm}, {"1\n", 1, api.ErrForm}, {`1"a":2`, 4, api.ErrForm}, {`1a`, 1, api.ErrForm},
		// The first one that is met decides.
		{`1(64 )`, 2, api.ErrRange}, {`1(2 03`, 4, api.ErrForm}, {`1:0"`, 2, api.ErrForm}, {`1("")`, 2, api.ErrForm}, {`1(1""`, 3, api.ErrForm},
		// Levels, and how many items there are.
		{chain[:498] + "1" + strings.Repeat(")", 249), 0, api.OK}, {chain + "1", 500, api.ErrLong}, {chain, 500, api.ErrLong}, {chain + "x", 500, api.ErrLong}, {chain[:498] + "1", 499, api.ErrForm},
		{many + ")", 0, api.OK}, {many, len(many), api.ErrForm}, {many + " ", len(many) + 1, api.ErrMany}, {many + " 64", len(many) + 1, api.ErrMany}, {many + " 2)", len(many) + 1, api.ErrMany}, {corner, len(corner), api.ErrLong}, {corner + "1", len(corner), api.ErrLong},
	} {
		y, at, e := wire.Parse(x.s)
		if at != x.at || e != x.e || e != api.OK && !isZero(y) || e == api.OK && plainText(y) != x.s {
			t.Errorf("%d: %.30q: %d at %d: %.40s", i, x.s, e, at, plainText(y))
		}
		if want, f := judgeText(x.s); want != x.at || f != x.e {
			t.Error("judge", i, want, f)
		}
	}
}

// P2.4: all short texts, of a few signs that matter, and texts of items with some signs changed, cut off, left out or put in, against another reader.
func TestReadTexts(t *testing.T) {
	var all func(s, signs string, more int)
	all = func(s, signs string, more int) {
		parses(t, s)
		for i := range signs {
			if more > 0 {
				all(s+signs[i:i+1], signs, more-1)
			}
		}
	}
	all("", "016:\"\\a() ", 5)
	all(`1"`, "\"\\0267cfA\x1f\x7f\xc3", 4)
	all(`1(2`, "1:\"() ", 6)
	const signs = "00112567:\"\"\\\\aef()() \xc3\xa9"
	r := seeded(5)
	for range 3000 {
		s := plainText(some(r))
		for range r.IntN(3) {
			i := r.IntN(len(s) + 1)
			j := min(len(s), i+r.IntN(3))
			k := r.IntN(len(signs))
			s = s[:i] + signs[k:min(len(signs), k+r.IntN(3))] + s[j:]
		}
		parses(t, s)
	}
}

// P2.4: a text that is cut off anywhere is wrong at its end, or is the text of another item.
func TestCutTexts(t *testing.T) {
	r := seeded(6)
	for range 200 {
		s := plainText(some(r))
		for n := range s {
			x, at, e := wire.Parse(s[:n])
			if e == api.OK && plainText(x) == s[:n] && at == 0 {
				continue
			}
			if !isZero(x) || at != n || e != api.ErrForm {
				t.Error(s[:n], plainText(x), at, e)
			}
		}
	}
}

// P2.4: the greatest number of bytes of a text, and one more.
func TestMaxBytesOfTexts(t *testing.T) {
	of := func(last int) api.Item { // 2 bytes, and for each Kid 4 more than its Text has
		return node(append(slices.Repeat([]api.Item{said(strings.Repeat("x", 4096))}, 15), said(strings.Repeat("x", last)))...)
	}
	full := of(api.MaxBytes - 2 - 15*(4096+4) - 4)
	s := shown(t, full)
	if len(s) != api.MaxBytes || s != plainText(full) {
		t.Error(len(s))
	}
	if x := parse(t, s); !same(x, full) {
		t.Error(shown(t, x))
	}
	over := of(api.MaxBytes - 2 - 15*(4096+4) - 3)
	long := plainText(over)
	if s, e := wire.Print(over); s != "" || e != api.ErrLong || len(long) != api.MaxBytes+1 {
		t.Error(len(s), e, len(long))
	}
	// A Num more in the last Kid, a Kid more, and many bytes more.
	last, more := cloned(full), cloned(full)
	last.Kids[15].Num = 1
	more.Kids = append(more.Kids, leaf(2, 0))
	for i, x := range []api.Item{last, more, wide(16, said(strings.Repeat("\x00", 4096))), wide(4999, said(strings.Repeat("x", 4096)))} {
		if s, e := wire.Print(x); s != "" || e != api.ErrLong {
			t.Error(i, len(s), e)
		}
	}
	for i, s := range []string{long, s + " ", strings.Repeat("x", api.MaxBytes+1), strings.Repeat("9", api.MaxBytes+1)} {
		if x, at, e := wire.Parse(s); !isZero(x) || at != 0 || e != api.ErrLong {
			t.Error(i, at, e)
		}
	}
	if x, at, e := wire.Parse(strings.Repeat("9", api.MaxBytes)); !isZero(x) || at != 0 || e != api.ErrRange {
		t.Error(at, e)
	}
}
