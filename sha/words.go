package sha

import (
	"math/bits"

	"billet/api"
)

// rounds is how many a block is stirred in.
const rounds = 64

// words are what a text's blocks are stirred into.
// As an array they are copied where they are handed on: what they were ahead of a block is still there for the sum behind it.
type words [8]uint32

// constants are the first 32 bits behind the point of the cube roots of the first 64 primes, one for each round.
var constants = [rounds]uint32{
	0x428a2f98, 0x71374491, 0xb5c0fbcf, 0xe9b5dba5, 0x3956c25b, 0x59f111f1, 0x923f82a4, 0xab1c5ed5,
	0xd807aa98, 0x12835b01, 0x243185be, 0x550c7dc3, 0x72be5d74, 0x80deb1fe, 0x9bdc06a7, 0xc19bf174,
	0xe49b69c1, 0xefbe4786, 0x0fc19dc6, 0x240ca1cc, 0x2de92c6f, 0x4a7484aa, 0x5cb0a9dc, 0x76f988da,
	0x983e5152, 0xa831c66d, 0xb00327c8, 0xbf597fc7, 0xc6e00bf3, 0xd5a79147, 0x06ca6351, 0x14292967,
	0x27b70a85, 0x2e1b2138, 0x4d2c6dfc, 0x53380d13, 0x650a7354, 0x766a0abb, 0x81c2c92e, 0x92722c85,
	0xa2bfe8a1, 0xa81a664b, 0xc24b8b70, 0xc76c51a3, 0xd192e819, 0xd6990624, 0xf40e3585, 0x106aa070,
	0x19a4c116, 0x1e376c08, 0x2748774c, 0x34b0bcb5, 0x391c0cb3, 0x4ed8aa4a, 0x5b9cca4f, 0x682e6ff3,
	0x748f82ee, 0x78a5636f, 0x84c87814, 0x8cc70208, 0x90befffa, 0xa4506ceb, 0xbef9a3f7, 0xc67178f2,
}

// first is the words ahead of all blocks: the first 32 bits behind the point of the square roots of the first eight primes.
func first() words {
	return words{0x6a09e667, 0xbb67ae85, 0x3c6ef372, 0xa54ff53a, 0x510e527f, 0x9b05688c, 0x1f83d9ab, 0x5be0cd19}
}

// after is the words after one more block.
// Without the sum at the end the rounds could be run backwards, and texts of one digest be found that way.
func (h words) after(block [size]byte) words {
	w := spread(block)
	a, b, c, d, e, f, g, last := h[0], h[1], h[2], h[3], h[4], h[5], h[6], h[7]
	for i := range rounds {
		t := last + turns(e, 6, 11, 25) + choice(e, f, g) + constants[i] + w[i]
		u := turns(a, 2, 13, 22) + majority(a, b, c)
		a, b, c, d, e, f, g, last = t+u, a, b, c, d+t, e, f, g
	}
	return words{h[0] + a, h[1] + b, h[2] + c, h[3] + d, h[4] + e, h[5] + f, h[6] + g, h[7] + last}
}

// spread is a block's sixteen words, and those that they make for the rounds behind the sixteenth.
func spread(block [size]byte) [rounds]uint32 {
	var w [rounds]uint32
	for i := range 16 {
		w[i] = word([4]byte(block[4*i:]))
	}
	for i := 16; i < rounds; i++ {
		w[i] = w[i-16] + shifts(w[i-15], 7, 18, 3) + w[i-7] + shifts(w[i-2], 17, 19, 10)
	}
	return w
}

// word is the number of four bytes, the highest first.
func word(b [4]byte) uint32 {
	return uint32(b[0])<<24 | uint32(b[1])<<16 | uint32(b[2])<<8 | uint32(b[3])
}

// turns is x turned right by i, by j and by k, summed modulo 2.
func turns(x uint32, i, j, k int) uint32 {
	return bits.RotateLeft32(x, -i) ^ bits.RotateLeft32(x, -j) ^ bits.RotateLeft32(x, -k)
}

// shifts is x turned right by i and by j and shifted right by k, summed modulo 2.
func shifts(x uint32, i, j, k int) uint32 {
	return bits.RotateLeft32(x, -i) ^ bits.RotateLeft32(x, -j) ^ x>>k
}

// choice is, bit by bit, y where x is 1, and z where it is 0.
func choice(x, y, z uint32) uint32 {
	return x&y | ^x&z
}

// majority is, bit by bit, what two of the three have, or all.
func majority(x, y, z uint32) uint32 {
	return x&y | x&z | y&z
}

// digest is the words' bytes, each word's highest first.
func (h words) digest() api.Key {
	var k api.Key
	for i, x := range h {
		k[4*i], k[4*i+1], k[4*i+2], k[4*i+3] = byte(x>>24), byte(x>>16), byte(x>>8), byte(x)
	}
	return k
}
