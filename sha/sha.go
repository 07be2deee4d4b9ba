// Package sha is layer 1: digests (SHA-256): see shared/doc/01-sha.md.
package sha

import (
	"math/bits"

	"rill/api"
)

const (
	rowSize    = 64
	rounds     = 64
	wordsInRow = 16
	lengthSize = 8
)

// constants are K0 to K63.
var constants = [rounds]uint32{
	0x428a2f98, 0x71374491, 0xb5c0fbcf, 0xe9b5dba5, 0x3956c25b, 0x59f111f1, 0x923f82a4, 0xab1c5ed5,
	0xd807aa98, 0x12835b01, 0x243185be, 0x550c7dc3, 0x72be5d74, 0x80deb1fe, 0x9bdc06a7, 0xc19bf174,
	0xe49b69c1, 0xefbe4786, 0x0fc19dc6, 0x240ca1cc, 0x2de92c6f, 0x4a7484aa, 0x5cb0a9dc, 0x76f988da,
	0x983e5152, 0xa831c66d, 0xb00327c8, 0xbf597fc7, 0xc6e00bf3, 0xd5a79147, 0x06ca6351, 0x14292967,
	0x27b70a85, 0x2e1b2138, 0x4d2c6dfc, 0x53380d13, 0x650a7354, 0x766a0abb, 0x81c2c92e, 0x92722c85,
	0xa2bfe8a1, 0xa81a664b, 0xc24b8b70, 0xc76c51a3, 0xd192e819, 0xd6990624, 0xf40e3585, 0x106aa070,
	0x19a4c116, 0x1e376c08, 0x2748774c, 0x34b0bcb5, 0x391c0cb3, 0x4ed8aa4a, 0x5b9cca4f, 0x682e6ff3,
	0x748f82ee, 0x78a5636f, 0x84c87814, 0x8cc70208, 0x90befffa, 0xa4506ceb, 0xbef9a3f7, 0xc67178f2,
}

// Hash is a digest under way.
type Hash struct {
	state  [8]uint32
	rest   [rowSize]byte // the bytes that fill no row yet
	length uint64        // of all that went by: it also tells how much of rest counts
}

// Of is the digest of bytes.
func Of(b []byte) api.Sum {
	h := New()
	h.Add(b)
	return h.Sum()
}

// New is one of no bytes.
func New() *Hash {
	return &Hash{state: [8]uint32{
		0x6a09e667, 0xbb67ae85, 0x3c6ef372, 0xa54ff53a,
		0x510e527f, 0x9b05688c, 0x1f83d9ab, 0x5be0cd19,
	}}
}

// Add lets bytes go by.
func (h *Hash) Add(b []byte) {
	held := int(h.length % rowSize)
	h.length += uint64(len(b))
	for len(b) > 0 {
		n := copy(h.rest[held:], b)
		b = b[n:]
		held += n
		if held == rowSize {
			h.state = take(h.state, h.rest)
			held = 0
		}
	}
}

// Sum is the digest of all that went by.
func (h *Hash) Sum() api.Sum {
	// The end of the text goes by a copy, so that Add may go on.
	whole := *h
	whole.Add(ending(h.length))
	var sum api.Sum
	for i, w := range whole.state {
		sum[4*i] = byte(w >> 24)
		sum[4*i+1] = byte(w >> 16)
		sum[4*i+2] = byte(w >> 8)
		sum[4*i+3] = byte(w)
	}
	return sum
}

// ending is what stands behind a text of a length, up to the end of its last row.
func ending(length uint64) []byte {
	// A row is added ahead of the second remainder, so that nothing goes below nought.
	used := int(length%rowSize) + 1 + lengthSize
	noughts := (2*rowSize - used) % rowSize
	end := make([]byte, 1+noughts, 1+noughts+lengthSize)
	end[0] = 0x80
	for i := range lengthSize {
		end = append(end, byte(8*length>>(56-8*i)))
	}
	return end
}

// take is the state when it has taken a row.
func take(state [8]uint32, row [rowSize]byte) [8]uint32 {
	w := words(row)
	a, b, c, d := state[0], state[1], state[2], state[3]
	e, f, g, h := state[4], state[5], state[6], state[7]
	for t := range rounds {
		s1 := right(6, e) ^ right(11, e) ^ right(25, e)
		choice := (e & f) ^ (^e & g)
		t1 := h + s1 + choice + constants[t] + w[t]
		s0 := right(2, a) ^ right(13, a) ^ right(22, a)
		most := (a & b) ^ (a & c) ^ (b & c)
		t2 := s0 + most
		h, g, f, e = g, f, e, d+t1
		d, c, b, a = c, b, a, t1+t2
	}
	return [8]uint32{
		state[0] + a, state[1] + b, state[2] + c, state[3] + d,
		state[4] + e, state[5] + f, state[6] + g, state[7] + h,
	}
}

// words are a row's words, and those that follow from them, one for each round.
func words(row [rowSize]byte) [rounds]uint32 {
	var w [rounds]uint32
	for t := range wordsInRow {
		w[t] = uint32(row[4*t])<<24 | uint32(row[4*t+1])<<16 | uint32(row[4*t+2])<<8 | uint32(row[4*t+3])
	}
	for i := range rounds - wordsInRow {
		t := i + wordsInRow
		x := w[t-2]
		s1 := right(17, x) ^ right(19, x) ^ (x >> 10)
		x = w[t-15]
		s0 := right(7, x) ^ right(18, x) ^ (x >> 3)
		w[t] = s1 + w[t-7] + s0 + w[t-16]
	}
	return w
}

// right is x turned right by n bits.
func right(n int, x uint32) uint32 {
	return bits.RotateLeft32(x, -n)
}
