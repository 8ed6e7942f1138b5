// Package sum computes digests: of bytes, at once or piece by piece, and of lists, with ways that prove what stands at a place. It writes and reads digests, and tells how few digits name one. It is layer 1: see shared/doc/01-sum.md.
package sum

import "hoarstone/api"

// The limits of the chapter.
const (
	MaxLong = 1 << 40 // bytes of a digest
	MaxMany = 1 << 30 // digests of a list that is proved
)

// State is what is known of bytes before their end.
type State struct {
	Words [8]uint32
	Rest  []byte
	Long  int
}

// Tree is a list that grows.
type Tree struct {
	Many  int
	Peaks []api.Sum
}

// Of returns the digest of bytes.
func Of(b []byte) api.Sum { return digest(written(New(), b)) }

// New returns the first state.
func New() State {
	return State{Words: [8]uint32{0x6a09e667, 0xbb67ae85, 0x3c6ef372, 0xa54ff53a, 0x510e527f, 0x9b05688c, 0x1f83d9ab, 0x5be0cd19}}
}

// Write returns the state behind more bytes.
func Write(s State, b []byte) (State, api.Errno) {
	switch {
	case !s.sound():
		return State{}, api.ErrWrong
	case len(b) > MaxLong-s.Long:
		return State{}, api.ErrLong
	}
	return written(s, b), api.OK
}

// Done returns the digest of all bytes of a state.
func Done(s State) (api.Sum, api.Errno) {
	if !s.sound() {
		return api.Sum{}, api.ErrWrong
	}
	return digest(s), api.OK
}

// sound reports whether a state can be that of bytes, as far as its numbers tell.
func (s State) sound() bool {
	return s.Long >= 0 && s.Long <= MaxLong && len(s.Rest) == s.Long%blockBytes
}
