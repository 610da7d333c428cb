package poly

import "math/bits"

// words is a number below 2^192 in words of 64 bits, the lowest first.
type words struct {
	a, b, c uint64
}

// factor is the number r in words of 64 bits, the lowest first.
// Both words are below 2^60, since the key's bits above are left out.
type factor struct {
	a, b uint64
}

// word is the number of eight bytes, the lowest first.
func word(b [8]byte) uint64 {
	return uint64(b[0]) | uint64(b[1])<<8 | uint64(b[2])<<16 | uint64(b[3])<<24 |
		uint64(b[4])<<32 | uint64(b[5])<<40 | uint64(b[6])<<48 | uint64(b[7])<<56
}

// plus is x + y, modulo 2^192.
func plus(x, y words) words {
	low, carry := bits.Add64(x.a, y.a, 0)
	middle, carry := bits.Add64(x.b, y.b, carry)
	return words{low, middle, x.c + y.c + carry}
}

// mulAdd is n m + s + t, which is below 2^128 whatever they are.
func mulAdd(n, m, s, t uint64) (high, low uint64) {
	high, low = bits.Mul64(n, m)
	low, one := bits.Add64(low, s, 0)
	low, other := bits.Add64(low, t, 0)
	return high + one + other, low
}

// times is x r modulo 2^130 - 5, or that and 2^130 - 5 more: x is below 7 2^128, and what comes below 5 2^128.
// A block's number is below 2 2^128, so that it may be added to what comes, and the sum be taken here again.
func times(x words, r factor) words {
	top, a := mulAdd(r.a, x.a, 0, 0)
	top, b := mulAdd(r.a, x.b, top, 0)
	c := r.a*x.c + top // below 7 2^60, so it is one word
	top, b = mulAdd(r.b, x.a, b, 0)
	top, c = mulAdd(r.b, x.b, c, top)
	return fold(a, b, c, r.b*x.c+top)
}

// fold is a number of four words, the lowest first, modulo 2^130 - 5, or that and 2^130 - 5 more; the number is below 2^255.
func fold(a, b, c, d uint64) words {
	// 2^130 is 5 here, so what stands from bit 130 on counts 5 times; it is below 2^125, and 5 times that below 2^128.
	top, a := mulAdd(5, c>>2|d<<62, a, 0)
	top, b = mulAdd(5, d>>2, b, top)
	return words{a, b, c&3 + top}
}

// settle is x modulo 2^130 - 5, where x is below twice that.
func settle(x words) words {
	// x is 2^130 - 5 or more just where x + 5 reaches bit 130; without that bit it is x less 2^130 - 5 there.
	less := plus(x, words{a: 5})
	past := less.c >> 2
	less.c &= 3
	return choose(-past, x, less)
}

// choose is x, if mask is 0, and y, if all its bits are 1.
// It has no branch, since the choice hangs on a secret.
func choose(mask uint64, x, y words) words {
	x.a ^= mask & (x.a ^ y.a)
	x.b ^= mask & (x.b ^ y.b)
	x.c ^= mask & (x.c ^ y.c)
	return x
}
