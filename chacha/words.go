package chacha

import (
	"math/bits"

	"billet/api"
)

// words are what a block is made of.
// As an array they are copied where they are handed on: what they were at first is still there when they are stirred.
type words [16]uint32

// counter is the place of the count among the words; one more than the highest word is 0, as the count's next one is.
const counter = 12

// laid is the words ahead of the stirring: "expand 32-byte k", the key, the count, the nonce.
func laid(key api.Key, count uint32, nonce api.Nonce) words {
	w := words{0x61707865, 0x3320646e, 0x79622d32, 0x6b206574, counter: count}
	for i := range 8 {
		w[4+i] = word([4]byte(key[4*i:]))
	}
	for i := range 3 {
		w[13+i] = word([4]byte(nonce[4*i:]))
	}
	return w
}

// word is the number of four bytes, the lowest first.
func word(b [4]byte) uint32 {
	return uint32(b[0]) | uint32(b[1])<<8 | uint32(b[2])<<16 | uint32(b[3])<<24
}

// block is the bytes of the words, each with its stirred one added.
// Without the sum the stirring could be run backwards, and would give the key away.
func (w words) block() [size]byte {
	var b [size]byte
	for i, s := range w.stirred() {
		s += w[i]
		b[4*i], b[4*i+1], b[4*i+2], b[4*i+3] = byte(s), byte(s>>8), byte(s>>16), byte(s>>24)
	}
	return b
}

// stirred is the words after ten double rounds: the columns of their square of four by four, then its diagonals.
func (w words) stirred() words {
	for range 10 {
		w[0], w[4], w[8], w[12] = quarter(w[0], w[4], w[8], w[12])
		w[1], w[5], w[9], w[13] = quarter(w[1], w[5], w[9], w[13])
		w[2], w[6], w[10], w[14] = quarter(w[2], w[6], w[10], w[14])
		w[3], w[7], w[11], w[15] = quarter(w[3], w[7], w[11], w[15])

		w[0], w[5], w[10], w[15] = quarter(w[0], w[5], w[10], w[15])
		w[1], w[6], w[11], w[12] = quarter(w[1], w[6], w[11], w[12])
		w[2], w[7], w[8], w[13] = quarter(w[2], w[7], w[8], w[13])
		w[3], w[4], w[9], w[14] = quarter(w[3], w[4], w[9], w[14])
	}
	return w
}

// quarter is the quarter round of four words: sums, sums modulo 2 and turns alone, so that no time hangs on a secret.
func quarter(a, b, c, d uint32) (uint32, uint32, uint32, uint32) {
	a += b
	d = bits.RotateLeft32(d^a, 16)
	c += d
	b = bits.RotateLeft32(b^c, 12)
	a += b
	d = bits.RotateLeft32(d^a, 8)
	c += d
	b = bits.RotateLeft32(b^c, 7)
	return a, b, c, d
}
