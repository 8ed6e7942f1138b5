package sum

import (
	"bytes"
	"maps"
	"slices"

	"hoarstone/api"
)

const (
	digitsOfSum = 64
	digitLetter = "0123456789abcdef"
)

// Hex returns the digits of a digest.
func Hex(s api.Sum) string {
	b := make([]byte, digitsOfSum)
	for i := range b {
		b[i] = digitLetter[digit(s, i)]
	}
	return string(b)
}

// Unhex returns the digest of digits.
func Unhex(t string) (api.Sum, api.Errno) {
	if len(t) != digitsOfSum {
		return api.Sum{}, api.ErrMany
	}
	l, ok := digits(t)
	if !ok {
		return api.Sum{}, api.ErrForm
	}
	var s api.Sum
	for i := range s {
		s[i] = l[2*i]<<4 | l[2*i+1]
	}
	return s, api.OK
}

// Compare tells which of two digests comes first.
func Compare(a, b api.Sum) int { return bytes.Compare(a[:], b[:]) }

// Short returns how many digits name each digest.
func Short(l []api.Sum) []int {
	need := map[api.Sum]int{}
	for _, s := range l {
		need[s] = 1
	}
	// Of all other digests a neighbour in their order begins with the most digits that are the same.
	rising := slices.SortedFunc(maps.Keys(need), Compare)
	for i := 1; i < len(rising); i++ {
		a, b := rising[i-1], rising[i]
		n := alike(a, b) + 1
		need[a], need[b] = max(need[a], n), max(need[b], n)
	}
	many := make([]int, len(l))
	for i, s := range l {
		many[i] = need[s]
	}
	return many
}

// Find returns the index of the digest that begins with some digits.
func Find(t string, l []api.Sum) (int, api.Errno) {
	if len(t) < 1 || len(t) > digitsOfSum {
		return 0, api.ErrMany
	}
	first, ok := digits(t)
	if !ok {
		return 0, api.ErrForm
	}
	found := -1
	for i, s := range l {
		switch {
		case !begins(s, first):
		case found < 0:
			found = i
		case s != l[found]:
			return 0, api.ErrClash
		}
	}
	if found < 0 {
		return 0, api.ErrNone
	}
	return found, api.OK
}

// digits returns what each digit of a text is worth, and whether there is nothing but digits in it.
func digits(t string) ([]byte, bool) {
	l := make([]byte, 0, len(t))
	for _, r := range t {
		switch {
		case r >= '0' && r <= '9':
			l = append(l, byte(r-'0'))
		case r >= 'a' && r <= 'f':
			l = append(l, byte(r-'a'+10))
		default:
			return nil, false
		}
	}
	return l, true
}

// digit returns what the digit i of a digest is worth.
func digit(s api.Sum, i int) byte {
	if i%2 == 0 {
		return s[i/2] >> 4
	}
	return s[i/2] & 15
}

// begins reports whether a digest begins with some digits.
func begins(s api.Sum, first []byte) bool {
	for i, d := range first {
		if digit(s, i) != d {
			return false
		}
	}
	return true
}

// alike returns how many digits are the same in two digests before the first one that differs.
func alike(a, b api.Sum) int {
	n := 0
search:
	for i := range a {
		for k := range 2 {
			if digit(a, 2*i+k) != digit(b, 2*i+k) {
				break search
			}
			n++
		}
	}
	return n
}
