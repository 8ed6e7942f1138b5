package wire

import (
	"strconv"

	"hoarstone/api"
)

const (
	numSign   = ':'  // before a Num
	quote     = '"'  // before a Text, and behind it
	escape    = '\\' // before two digits that tell a byte
	open      = '('  // before Kids
	blank     = ' '  // between two Kids
	shut      = ')'  // behind Kids
	firstSign = 32   // the first byte that may stand for itself
	lastSign  = 126  // the last one
	twoDigits = 2    // digits that tell a byte
)

// digits are those of base 16.
var digits = [16]byte{'0', '1', '2', '3', '4', '5', '6', '7', '8', '9', 'a', 'b', 'c', 'd', 'e', 'f'}

// parser reads items of a text.
type parser struct {
	source
	parts []part
	worth map[rune]byte // what digits stand for
}

// Print returns the text of an item.
func Print(x api.Item) (string, api.Errno) {
	if e := Check(x); e != api.OK {
		return "", e
	}
	s := printed(nil, x)
	if len(s) > api.MaxBytes {
		return "", api.ErrLong
	}
	return string(s), api.OK
}

// Parse returns the item of a text, or where it is wrong.
func Parse(s string) (api.Item, int, api.Errno) {
	if len(s) > api.MaxBytes {
		return api.Item{}, 0, api.ErrLong
	}
	p := newParser(s)
	return p.whole(p.item)
}

// printed puts the text of an item behind what is there, or, if it becomes too long, a beginning that is too long.
func printed(s []byte, x api.Item) []byte {
	s = strconv.AppendInt(s, int64(x.Kind), 10)
	if x.Num != 0 {
		s = strconv.AppendInt(append(s, numSign), int64(x.Num), 10)
	}
	if x.Text != "" {
		s = quoted(s, x.Text)
	}
	if len(x.Kids) == 0 {
		return s
	}
	before := byte(open)
	for _, kid := range x.Kids {
		if len(s) > api.MaxBytes {
			return s
		}
		s = printed(append(s, before), kid)
		before = blank
	}
	return append(s, shut)
}

// quoted puts a Text behind what is there.
func quoted(s []byte, text string) []byte {
	s = append(s, quote)
	for i := range len(text) {
		if b := text[i]; isPlain(b) {
			s = append(s, b)
		} else {
			s = append(s, escape, digits[b>>4], digits[b&15])
		}
	}
	return append(s, quote)
}

// isPlain reports whether a byte of a Text stands for itself.
func isPlain(b byte) bool {
	return b >= firstSign && b <= lastSign && b != quote && b != escape
}

// newParser returns what reads a text.
func newParser(s string) *parser {
	p := &parser{source: source{all: s}, worth: map[rune]byte{}}
	for i, d := range digits {
		p.worth[rune(d)] = byte(i)
	}
	p.parts = []part{{numSign, p.num}, {quote, p.text}, {open, p.kids}}
	return p
}

// item reads an item.
func (p *parser) item() (api.Item, bool) {
	if !p.begin() {
		return api.Item{}, false
	}
	var x api.Item
	if !p.kind(&x) {
		return api.Item{}, false
	}
	for _, part := range p.parts {
		if p.skip(part.sign) && !part.read(&x) {
			return api.Item{}, false
		}
	}
	p.end()
	return x, true
}

// kind reads a Kind.
func (p *parser) kind(x *api.Item) bool {
	from := p.at
	n, ok := p.number()
	if ok && (n < 1 || n > MaxKind) {
		return p.fail(api.ErrRange, from)
	}
	x.Kind = n
	return ok
}

// num reads a Num that is not 0.
func (p *parser) num(x *api.Item) bool {
	from := p.at
	n, ok := p.number()
	switch {
	case !ok:
		return false
	case n > MaxNum:
		return p.fail(api.ErrRange, from)
	case n == 0:
		return p.fail(api.ErrForm, from)
	}
	x.Num = n
	return true
}

// text reads a Text behind its first quote.
func (p *parser) text(x *api.Item) bool {
	from := p.at - 1
	var text []byte
reading:
	for p.at < len(p.all) {
		b, ok := p.all[p.at], true
		switch {
		case b == quote:
			break reading
		case b == escape:
			b, ok = p.told()
		case isPlain(b):
			p.at++
		default:
			ok = p.fail(api.ErrForm, p.at)
		}
		if !ok {
			return false
		}
		text = append(text, b)
	}
	switch {
	case !p.skip(quote):
		return p.fail(api.ErrForm, p.at)
	case len(text) == 0:
		return p.fail(api.ErrForm, from)
	case len(text) > MaxText:
		return p.fail(api.ErrLong, from)
	}
	x.Text = string(text)
	return true
}

// told reads a byte that does not stand for itself.
func (p *parser) told() (byte, bool) {
	from := p.at + 1
	to := min(from+twoDigits, len(p.all))
	var b byte
	for _, d := range p.all[from:to] {
		worth, ok := p.worth[d]
		if !ok {
			return 0, p.fail(api.ErrForm, p.at)
		}
		b = b<<4 + worth
	}
	switch {
	case to < from+twoDigits:
		return 0, p.fail(api.ErrForm, to)
	case isPlain(b):
		return 0, p.fail(api.ErrForm, p.at)
	}
	p.at = to
	return b, true
}

// kids reads Kids behind what opens them.
func (p *parser) kids(x *api.Item) bool {
	for {
		kid, ok := p.item()
		if !ok {
			return false
		}
		x.Kids = append(x.Kids, kid)
		switch {
		case p.skip(shut):
			return true
		case !p.skip(blank):
			return p.fail(api.ErrForm, p.at)
		}
	}
}

// number reads decimal digits; of what is above MaxNum it tells just that.
func (p *parser) number() (int, bool) {
	from := p.at
	for p.at < len(p.all) && p.all[p.at] >= '0' && p.all[p.at] <= '9' {
		p.at++
	}
	l := p.all[from:p.at]
	if l == "" || l[0] == '0' && len(l) > 1 {
		return 0, p.fail(api.ErrForm, from)
	}
	n := 0
	for _, d := range l {
		n = min(10*n+int(d-'0'), MaxNum+1)
	}
	return n, true
}

// skip goes on behind a byte if it follows, and reports whether it does.
func (p *parser) skip(b byte) bool {
	if p.at == len(p.all) || p.all[p.at] != b {
		return false
	}
	p.at++
	return true
}
