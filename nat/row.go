package nat

import (
	"math/bits"
	"strconv"
	"strings"
)

// How many bytes, and how many bits, a limb has.
const (
	limbSize = 8
	limbBits = 8 * limbSize
)

// A group is as many decimal digits as always fit into a limb.
const (
	groupSize = 19
	group     = 10_000_000_000_000_000_000
)

// row is a number's limbs, the lowest first. The last one is not 0, and 0 has none: so each number has one row alone.
type row []uint64

// trimmed is the row without the noughts at its end.
func trimmed(a row) row {
	n := len(a)
	for n > 0 && a[n-1] == 0 {
		n--
	}
	if n == 0 {
		return nil
	}
	return a[:n]
}

// plus is the sum, in a's own memory or, if that is too short, in new memory: b is only read.
func plus(a, b row) row {
	if len(b) > len(a) {
		a = append(a, make(row, len(b)-len(a))...)
	}
	var carry uint64
	for i, x := range b {
		a[i], carry = bits.Add64(a[i], x, carry)
	}
	for i := len(b); carry > 0 && i < len(a); i++ {
		a[i], carry = bits.Add64(a[i], 0, carry)
	}
	if carry > 0 {
		a = append(a, carry)
	}
	return a
}

// less is a less b, which is not greater, in a's own memory.
func less(a, b row) row {
	var borrow uint64
	for i, x := range b {
		a[i], borrow = bits.Sub64(a[i], x, borrow)
	}
	for i := len(b); borrow > 0; i++ { // it ends: b is not greater
		a[i], borrow = bits.Sub64(a[i], 0, borrow)
	}
	return trimmed(a)
}

// times is the product, in new memory.
func times(a, b row) row {
	out := make(row, len(a)+len(b))
	for i, x := range a {
		out[i+len(b)] = addTimes(out[i:i+len(b)], b, x)
	}
	return trimmed(out)
}

// addTimes adds b times x to out, which is as long as b, and gives what goes beyond its end.
func addTimes(out, b row, x uint64) uint64 {
	var carry uint64
	for i, y := range b {
		high, low := bits.Mul64(x, y)
		low, c := bits.Add64(low, carry, 0)
		sum, d := bits.Add64(out[i], low, 0)
		out[i] = sum
		carry = high + c + d // no more than a limb holds: (2^64 - 1)^2 and two limbs are below 2^128
	}
	return carry
}

// digits is the number's decimal digits; a is used up.
func digits(a row) string {
	var groups []uint64 // the lowest first
	for len(a) > 0 {
		groups = append(groups, parted(a))
		a = trimmed(a)
	}
	if len(groups) == 0 {
		return "0"
	}
	last := len(groups) - 1
	var b strings.Builder
	b.WriteString(strconv.FormatUint(groups[last], 10))
	for i := last - 1; i >= 0; i-- {
		s := strconv.FormatUint(groups[i], 10)
		b.WriteString(strings.Repeat("0", groupSize-len(s)))
		b.WriteString(s)
	}
	return b.String()
}

// parted divides a by a group, in its own memory, and gives the rest.
func parted(a row) uint64 {
	var rest uint64
	for i := len(a) - 1; i >= 0; i-- {
		a[i], rest = bits.Div64(rest, a[i], group)
	}
	return rest
}
