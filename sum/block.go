package sum

import (
	"bytes"
	"iter"
	"math/bits"
	"slices"

	"hoarstone/api"
)

const (
	blockBytes = 64 // bytes of a block
	blockWords = 16 // words of a block
	longBytes  = 8  // bytes at the end of the last block that say how many there were
	rounds     = 64 // rounds of a block
)

// constants are those of the rounds.
var constants = [rounds]uint32{
	0x428a2f98, 0x71374491, 0xb5c0fbcf, 0xe9b5dba5, 0x3956c25b, 0x59f111f1, 0x923f82a4, 0xab1c5ed5,
	0xd807aa98, 0x12835b01, 0x243185be, 0x550c7dc3, 0x72be5d74, 0x80deb1fe, 0x9bdc06a7, 0xc19bf174,
	0xe49b69c1, 0xefbe4786, 0x0fc19dc6, 0x240ca1cc, 0x2de92c6f, 0x4a7484aa, 0x5cb0a9dc, 0x76f988da,
	0x983e5152, 0xa831c66d, 0xb00327c8, 0xbf597fc7, 0xc6e00bf3, 0xd5a79147, 0x06ca6351, 0x14292967,
	0x27b70a85, 0x2e1b2138, 0x4d2c6dfc, 0x53380d13, 0x650a7354, 0x766a0abb, 0x81c2c92e, 0x92722c85,
	0xa2bfe8a1, 0xa81a664b, 0xc24b8b70, 0xc76c51a3, 0xd192e819, 0xd6990624, 0xf40e3585, 0x106aa070,
	0x19a4c116, 0x1e376c08, 0x2748774c, 0x34b0bcb5, 0x391c0cb3, 0x4ed8aa4a, 0x5b9cca4f, 0x682e6ff3,
	0x748f82ee, 0x78a5636f, 0x84c87814, 0x8cc70208, 0x90befffa, 0xa4506ceb, 0xbef9a3f7, 0xc67178f2,
}

// work is a state that takes blocks, with the eight words within a block, and what a round does to them.
type work struct {
	State
	eight [8]uint32
	round func(eight *[8]uint32, constant, word uint32)
}

// written returns the state behind more bytes, whatever its numbers are.
func written(s State, b []byte) State {
	w := work{State: s, round: round}
	take := w.take
	// The Rest belongs to the caller: the bytes are joined in new memory.
	all := b
	if len(s.Rest) > 0 {
		all = slices.Concat(s.Rest, b)
	}
	for block := range blocks(all) {
		take(block)
	}
	w.Rest = bytes.Clone(all[len(all)-len(all)%blockBytes:])
	w.Long += len(b)
	return w.State
}

// digest returns the digest of all bytes of a state, whatever its numbers are.
func digest(s State) api.Sum {
	end := written(s, padding(s.Long))
	var sum api.Sum
	for i, word := range end.Words {
		for k := range 4 {
			sum[4*i+k] = byte(word >> (24 - 8*k))
		}
	}
	return sum
}

// padding returns what is added behind so many bytes.
func padding(long int) []byte {
	zeros := (2*blockBytes - longBytes - 1 - long%blockBytes) % blockBytes
	b := make([]byte, 1+zeros+longBytes)
	b[0] = 128
	for k := range longBytes {
		b[1+zeros+k] = byte(uint64(long) * 8 >> (56 - 8*k))
	}
	return b
}

// blocks yields the whole blocks that bytes begin with.
func blocks(b []byte) iter.Seq[[]byte] {
	return func(yield func([]byte) bool) {
		for from := 0; from+blockBytes <= len(b); from += blockBytes {
			if !yield(b[from : from+blockBytes]) {
				return
			}
		}
	}
}

// take makes of the words what a block makes of them.
func (w *work) take(block []byte) {
	w.eight = w.Words
	words := schedule(block)
	for i := range rounds {
		w.round(&w.eight, constants[i], words[i])
	}
	for i := range w.Words {
		w.Words[i] += w.eight[i]
	}
}

// schedule returns the words of a block, and those that are made of them, one for each round.
func schedule(block []byte) [rounds]uint32 {
	var words [rounds]uint32
	for i := range words {
		if i < blockWords {
			b := block[4*i : 4*i+4]
			words[i] = uint32(b[0])<<24 | uint32(b[1])<<16 | uint32(b[2])<<8 | uint32(b[3])
			continue
		}
		late, soon := words[i-15], words[i-2]
		lateTurned, soonTurned := turner(late), turner(soon)
		words[i] = add(words[i-16], words[i-7],
			lateTurned(7)^lateTurned(18)^late>>3,
			soonTurned(17)^soonTurned(19)^soon>>10)
	}
	return words
}

// round makes of eight words what they are behind one round.
func round(eight *[8]uint32, constant, word uint32) {
	a, b, c, d := eight[0], eight[1], eight[2], eight[3]
	e, f, g, h := eight[4], eight[5], eight[6], eight[7]
	aTurned, eTurned := turner(a), turner(e)
	chosen := e&f | ^e&g
	most := a&b | a&c | b&c
	p := add(h, eTurned(6)^eTurned(11)^eTurned(25), chosen, constant, word)
	q := add(aTurned(2)^aTurned(13)^aTurned(22), most)
	eight[0], eight[1], eight[2], eight[3] = p+q, a, b, c
	eight[4], eight[5], eight[6], eight[7] = d+p, e, f, g
}

// turner returns what turns a word to the right.
func turner(word uint32) func(n int) uint32 {
	return func(n int) uint32 { return bits.RotateLeft32(word, -n) }
}

// add returns the sum of words.
func add(words ...uint32) uint32 {
	var sum uint32
	for _, word := range words {
		sum += word
	}
	return sum
}
