package wire

import (
	"hoarstone/api"
	"hoarstone/sum"
)

const (
	textSign    = 64  // in a head: there is a Text
	kidsSign    = 128 // in a head: there are Kids
	numberBytes = 6   // bytes of the longest number
	numberBits  = 7   // bits of a number in one byte
	moreSign    = 128 // in a byte of a number: another one follows
)

// decoder reads items of bytes.
type decoder struct {
	source
	parts []part
}

// Encode returns the bytes of an item.
func Encode(x api.Item) ([]byte, api.Errno) { return Join([]api.Item{x}) }

// Decode returns the item of bytes, or where they are wrong.
func Decode(b []byte) (api.Item, int, api.Errno) {
	if len(b) > api.MaxBytes {
		return api.Item{}, 0, api.ErrLong
	}
	d := newDecoder(b)
	return d.whole(d.item)
}

// Join returns the bytes of items, one behind the other.
func Join(l []api.Item) ([]byte, api.Errno) {
	if e := check(l...); e != api.OK {
		return nil, e
	}
	var all []byte
	for _, x := range l {
		for _, item := range within(x) {
			all = add(all, front(item))
			// What is too long already is not made longer.
			if len(all) > api.MaxBytes {
				return nil, api.ErrLong
			}
		}
	}
	return all, api.OK
}

// Split returns the items of bytes, or where they are wrong.
func Split(b []byte) ([]api.Item, int, api.Errno) {
	if len(b) > api.MaxBytes {
		return nil, 0, api.ErrLong
	}
	d := newDecoder(b)
	return d.stream(d.item)
}

// Sum returns the digest of the bytes of an item.
func Sum(x api.Item) (api.Sum, api.Errno) {
	b, e := Encode(x)
	if e != api.OK {
		return api.Sum{}, e
	}
	return sum.Of(b), api.OK
}

// front returns the bytes of an item before those of its Kids.
func front(x api.Item) []byte {
	first, num := head(x), number(x.Num)
	b := add(nil, first[:], num[1:])
	if x.Text != "" {
		b = add(b, number(len(x.Text)), []byte(x.Text))
	}
	if len(x.Kids) > 0 {
		b = add(b, number(len(x.Kids)))
	}
	return b
}

// head returns the first two bytes of an item: the one that tells its Kind and what it has, and the first one of its Num.
func head(x api.Item) [2]byte {
	first := byte(x.Kind)
	if x.Text != "" {
		first += textSign
	}
	if len(x.Kids) > 0 {
		first += kidsSign
	}
	return [2]byte{first, number(x.Num)[0]}
}

// number returns a number as bytes.
func number(n int) []byte {
	var b []byte
	for ; n >= moreSign; n >>= numberBits {
		b = append(b, byte(n%moreSign+moreSign))
	}
	return append(b, byte(n))
}

// add puts parts behind bytes, one behind the other.
func add(b []byte, parts ...[]byte) []byte {
	for _, p := range parts {
		b = append(b, p...)
	}
	return b
}

// newDecoder returns what reads bytes, which are copied.
func newDecoder(b []byte) *decoder {
	d := &decoder{source: source{all: string(b)}}
	// A Num is always there.
	d.parts = []part{{0, d.num}, {textSign, d.text}, {kidsSign, d.kids}}
	return d
}

// item reads an item.
func (d *decoder) item() (api.Item, bool) {
	from := d.at
	if from == len(d.all) {
		return api.Item{}, d.fail(api.ErrForm, from)
	}
	if !d.begin() {
		return api.Item{}, false
	}
	first := d.all[from]
	x := api.Item{Kind: int(first % textSign)}
	if x.Kind == 0 {
		return api.Item{}, d.fail(api.ErrForm, from)
	}
	d.at++
	for _, p := range d.parts {
		if first&p.sign == p.sign && !p.read(&x) {
			return api.Item{}, false
		}
	}
	d.end()
	return x, true
}

// num reads a Num.
func (d *decoder) num(x *api.Item) bool {
	n, ok := d.number(MaxNum)
	x.Num = n
	return ok
}

// text reads a Text.
func (d *decoder) text(x *api.Item) bool {
	long, ok := d.many(MaxText)
	if !ok {
		return false
	}
	if long > len(d.all)-d.at {
		return d.fail(api.ErrForm, len(d.all))
	}
	x.Text = d.all[d.at : d.at+long]
	d.at += long
	return true
}

// kids reads Kids.
func (d *decoder) kids(x *api.Item) bool {
	many, ok := d.many(MaxItems)
	if !ok {
		return false
	}
	// Memory is not taken before the Kids are there: the number may be anything.
	for range many {
		kid, ok := d.item()
		if !ok {
			return false
		}
		x.Kids = append(x.Kids, kid)
	}
	return true
}

// many reads how many of something there are, which is not none.
func (d *decoder) many(most int) (int, bool) {
	from := d.at
	n, ok := d.number(most)
	if ok && n == 0 {
		return 0, d.fail(api.ErrForm, from)
	}
	return n, ok
}

// number reads a number that is at most so great.
func (d *decoder) number(most int) (int, bool) {
	from, n := d.at, 0
	for i := range numberBytes {
		if d.at == len(d.all) {
			return 0, d.fail(api.ErrForm, d.at)
		}
		b := int(d.all[d.at])
		d.at++
		n += b % moreSign << (numberBits * i)
		switch {
		case b >= moreSign:
			continue
		case b == 0 && i > 0:
			return 0, d.fail(api.ErrForm, from)
		case n > most:
			return 0, d.fail(api.ErrRange, from)
		}
		return n, true
	}
	return 0, d.fail(api.ErrRange, from)
}
