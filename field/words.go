package field

import "math/bits"

// words is a number below 2^256 in words of 64 bits, the lowest first.
// Fields, and no array: so all of it stays in registers.
type words struct {
	a, b, c, d uint64
}

// bit255 is bit 255 of a number, as it stands in its highest word.
const bit255 = 1 << 63

// plus is x + y, modulo 2^256.
func plus(x, y words) words {
	var carry uint64
	x.a, carry = bits.Add64(x.a, y.a, 0)
	x.b, carry = bits.Add64(x.b, y.b, carry)
	x.c, carry = bits.Add64(x.c, y.c, carry)
	x.d, _ = bits.Add64(x.d, y.d, carry)
	return x
}

// opposite is p - x, where x is below p; of 0 it is p itself.
func opposite(x words) words {
	var borrow uint64
	x.a, borrow = bits.Sub64(1<<64-19, x.a, 0)
	x.b, borrow = bits.Sub64(1<<64-1, x.b, borrow)
	x.c, borrow = bits.Sub64(1<<64-1, x.c, borrow)
	x.d, _ = bits.Sub64(1<<63-1, x.d, borrow)
	return x
}

// mulAdd is n m + s + t, which is below 2^128 whatever they are.
func mulAdd(n, m, s, t uint64) (high, low uint64) {
	high, low = bits.Mul64(n, m)
	low, carry := bits.Add64(low, s, 0)
	high += carry
	low, carry = bits.Add64(low, t, 0)
	return high + carry, low
}

// times is n x + s: its lowest four words, and what stands above them.
func times(n uint64, x, s words) (words, uint64) {
	var top uint64
	top, s.a = mulAdd(n, x.a, s.a, 0)
	top, s.b = mulAdd(n, x.b, s.b, top)
	top, s.c = mulAdd(n, x.c, s.c, top)
	top, s.d = mulAdd(n, x.d, s.d, top)
	return s, top
}

// product is x y modulo p.
func product(x, y words) words {
	var low words
	s, top := times(x.a, y, words{})
	low.a = s.a
	s, top = times(x.b, y, words{s.b, s.c, s.d, top})
	low.b = s.a
	s, top = times(x.c, y, words{s.b, s.c, s.d, top})
	low.c = s.a
	s, top = times(x.d, y, words{s.b, s.c, s.d, top})
	low.d = s.a
	// 2^256 is 38 modulo p, so the upper half counts 38 times; that leaves at most 38 above.
	return settle(times(38, words{s.b, s.c, s.d, top}, low))
}

// settle is x + 2^256 top modulo p, where top is at most 38.
func settle(x words, top uint64) words {
	// 2^255 is 19 modulo p: from bit 255 on there are at most 77 of it, and what comes is below 2 p.
	over := top<<1 | x.d>>63
	x.d &^= bit255
	x = plus(x, words{a: 19 * over})
	// x is p or more just where x + 19 has bit 255; without that bit it is x - p there.
	less := plus(x, words{a: 19})
	past := less.d >> 63
	less.d &^= bit255
	return choose(-past, x, less)
}

// choose is x, if mask is 0, and y, if all its bits are 1.
// It has no branch, since the choice may hang on a secret.
func choose(mask uint64, x, y words) words {
	x.a ^= mask & (x.a ^ y.a)
	x.b ^= mask & (x.b ^ y.b)
	x.c ^= mask & (x.c ^ y.c)
	x.d ^= mask & (x.d ^ y.d)
	return x
}
