// Package field is the numbers modulo p = 2^255 - 19.
package field

import "billet/api"

// Elem is a number from 0 to p - 1; the zero value is 0.
// What it holds is below p after every call, so that each number has one form alone.
type Elem struct {
	w words
}

// Of is the number of k's bytes, the lowest first, without the highest bit, modulo p.
func Of(k api.Key) Elem {
	w := words{word(k, 0), word(k, 8), word(k, 16), word(k, 24) &^ bit255}
	return Elem{settle(w, 0)}
}

// word is the number of k's eight bytes from a place on, the lowest first.
func word(k api.Key, from int) uint64 {
	var n uint64
	for i := range 8 {
		n |= uint64(k[from+i]) << (8 * i)
	}
	return n
}

// Num is n.
func Num(n uint64) Elem {
	return Elem{words{a: n}}
}

// Key is the number's 32 bytes, the lowest first.
func (a Elem) Key() api.Key {
	var k api.Key
	for i := range 8 {
		k[i] = byte(a.w.a >> (8 * i))
		k[i+8] = byte(a.w.b >> (8 * i))
		k[i+16] = byte(a.w.c >> (8 * i))
		k[i+24] = byte(a.w.d >> (8 * i))
	}
	return k
}

// Add is the sum; of none it is 0.
func Add(l ...Elem) Elem {
	if len(l) == 0 {
		return Num(0)
	}
	sum := l[0].w
	for _, x := range l[1:] {
		sum = settle(plus(sum, x.w), 0)
	}
	return Elem{sum}
}

// Sub is a less b.
func Sub(a, b Elem) Elem {
	return Elem{settle(plus(a.w, opposite(b.w)), 0)}
}

// Mul is the product; of none it is 1.
func Mul(l ...Elem) Elem {
	if len(l) == 0 {
		return Num(1)
	}
	out := l[0].w
	for _, x := range l[1:] {
		out = product(out, x.w)
	}
	return Elem{out}
}

// Inv is the number whose product with a is 1; of 0 it is 0.
func Inv(a Elem) Elem {
	// By Fermat's little theorem it is a to the power p - 2 = 2^255 - 21,
	// of which the bits from 0 to 254 are all 1, but for the bits 2 and 4.
	out := words{a: 1}
	for i := 254; i >= 0; i-- {
		out = product(out, out)
		if i != 2 && i != 4 {
			out = product(out, a.w)
		}
	}
	return Elem{out}
}

// Same tells whether a and b are one number.
func Same(a, b Elem) bool {
	return a.w == b.w
}

// Pick is b, if n is 1, else a.
func Pick(n int, a, b Elem) Elem {
	x := uint64(n) ^ 1 // 0 where n is 1; anywhere else x or -x has the highest bit
	return Elem{choose((x|-x)>>63-1, a.w, b.w)}
}
