package field_test

import (
	"crypto/sha256"
	"math"
	"math/big"
	"slices"
	"testing"

	"billet/api"
	"billet/field"
)

// prime is p, by the library's own numbers, against which all is held.
var prime = new(big.Int).Sub(pow2(255), big.NewInt(19))

func pow2(n uint) *big.Int {
	return new(big.Int).Lsh(big.NewInt(1), n)
}

// number is the number of a key's 32 bytes, the lowest first.
func number(k api.Key) *big.Int {
	slices.Reverse(k[:])
	return new(big.Int).SetBytes(k[:])
}

// key is the 32 bytes of a number below 2^256, the lowest first.
func key(n *big.Int) api.Key {
	var k api.Key
	n.FillBytes(k[:])
	slices.Reverse(k[:])
	return k
}

// filled is a first byte, thirty in the middle, and a last one.
func filled(first, middle, last byte) api.Key {
	var k api.Key
	for i := range k {
		k[i] = middle
	}
	k[0], k[31] = first, last
	return k
}

// some is a key that looks like chance, the same for the same seed.
func some(seed int) api.Key {
	return sha256.Sum256([]byte{byte(seed), byte(seed >> 8)})
}

// keys are bytes about 0, p, 2^255, 2 p, 2^256 and where words end, and some more.
func keys() []api.Key {
	var l []api.Key
	about := []*big.Int{new(big.Int), prime, new(big.Int).Lsh(prime, 1), pow2(256)}
	for n := uint(63); n < 256; n += 64 {
		about = append(about, pow2(n), pow2(n+1), new(big.Int).Sub(prime, pow2(n)))
	}
	for _, n := range about {
		for d := int64(-20); d <= 20; d++ {
			x := new(big.Int).Add(n, big.NewInt(d))
			if x.Sign() >= 0 && x.BitLen() <= 256 {
				l = append(l, key(x))
			}
		}
	}
	for i := range 200 {
		l = append(l, some(i))
	}
	return l
}

// few are numbers at the edges, with what they are.
func few() ([]field.Elem, []*big.Int) {
	var elems []field.Elem
	var nums []*big.Int
	l := keys()
	for i := 0; i < len(l); i += 5 {
		elems = append(elems, field.Of(l[i]))
		nums = append(nums, number(field.Of(l[i]).Key()))
	}
	return elems, nums
}

// check holds an answer against the number that it should be, modulo p.
func check(t *testing.T, what string, got field.Elem, want *big.Int) {
	t.Helper()
	if k := key(new(big.Int).Mod(want, prime)); got.Key() != k {
		t.Errorf("%s: %x, not %x", what, got.Key(), k)
	}
}

// P1.1

func TestOfAndKey(t *testing.T) {
	mask := new(big.Int).Sub(pow2(255), big.NewInt(1))
	for _, k := range keys() {
		want := new(big.Int).And(number(k), mask)
		check(t, "Of", field.Of(k), want)
		again := field.Of(k).Key()
		if number(again).Cmp(prime) >= 0 || field.Of(again).Key() != again {
			t.Errorf("the bytes %x of Of(%x) are not those of a number below p", again, k)
		}
	}
}

func TestOfFromThePrimeOn(t *testing.T) {
	for d := range 19 {
		if got := field.Of(filled(byte(0xed+d), 0xff, 0x7f)); got != field.Num(uint64(d)) {
			t.Errorf("p + %d: %x", d, got.Key())
		}
	}
	if got := field.Of(filled(0xec, 0xff, 0x7f)).Key(); got != filled(0xec, 0xff, 0x7f) {
		t.Errorf("p - 1: %x", got)
	}
}

func TestOfLeavesOutTheHighestBit(t *testing.T) {
	for _, k := range keys() {
		with, without := k, k
		with[31] |= 0x80
		without[31] &= 0x7f
		if !field.Same(field.Of(with), field.Of(without)) {
			t.Errorf("%x", k)
		}
	}
	if field.Of(filled(0, 0, 0x80)) != (field.Elem{}) || field.Of(filled(0xff, 0xff, 0xff)) != field.Num(18) {
		t.Error("noughts and ones")
	}
}

func TestNum(t *testing.T) {
	for _, n := range []uint64{0, 1, 2, 18, 19, 20, 255, 256, 1<<32 - 1, 1 << 32, 1<<51 - 1, 1 << 51, 1 << 63, math.MaxUint64 - 1, math.MaxUint64} {
		check(t, "Num", field.Num(n), new(big.Int).SetUint64(n))
	}
}

func TestZeroValue(t *testing.T) {
	var zero field.Elem
	if zero.Key() != (api.Key{}) || !field.Same(zero, field.Num(0)) || !field.Same(zero, field.Of(api.Key{})) {
		t.Errorf("%x", zero.Key())
	}
}

func TestSame(t *testing.T) {
	elems, nums := few()
	for i, a := range elems {
		for k, b := range elems {
			want := nums[i].Cmp(nums[k]) == 0
			if field.Same(a, b) != want || (a == b) != want {
				t.Errorf("%x, %x: %v", a.Key(), b.Key(), !want)
			}
		}
	}
	for bit := range 255 {
		a := field.Of(key(pow2(uint(bit))))
		if field.Same(a, field.Num(0)) || !field.Same(a, a) {
			t.Errorf("bit %d", bit)
		}
	}
}

func TestSameOfOneNumberByTwoWays(t *testing.T) {
	less := field.Sub(field.Num(0), field.Num(1))
	for i, x := range [][2]field.Elem{
		{field.Add(less, field.Num(1)), field.Num(0)},
		{field.Mul(less, less), field.Num(1)},
		{field.Add(less, field.Num(19)), field.Of(filled(0xff, 0xff, 0x7f))},
		{field.Sub(field.Num(3), field.Num(4)), less},
		{field.Inv(less), less},
	} {
		if !field.Same(x[0], x[1]) || x[0] != x[1] {
			t.Errorf("%d: %x, %x", i, x[0].Key(), x[1].Key())
		}
	}
}

// P1.2

func TestOfNone(t *testing.T) {
	if field.Add() != field.Num(0) || field.Add(nil...) != field.Num(0) || field.Add([]field.Elem{}...) != field.Num(0) {
		t.Error("the sum")
	}
	if field.Mul() != field.Num(1) || field.Mul(nil...) != field.Num(1) || field.Mul([]field.Elem{}...) != field.Num(1) {
		t.Error("the product")
	}
}

func TestOfOneAndTwo(t *testing.T) {
	elems, nums := few()
	for i, a := range elems {
		check(t, "Add of one", field.Add(a), nums[i])
		check(t, "Mul of one", field.Mul(a), nums[i])
		for k, b := range elems {
			check(t, "Add", field.Add(a, b), new(big.Int).Add(nums[i], nums[k]))
			check(t, "Sub", field.Sub(a, b), new(big.Int).Sub(nums[i], nums[k]))
			check(t, "Mul", field.Mul(a, b), new(big.Int).Mul(nums[i], nums[k]))
		}
	}
}

func TestOfMany(t *testing.T) {
	elems, nums := few()
	sum, product := new(big.Int), big.NewInt(1)
	for i, n := range nums {
		if n.Sign() == 0 {
			elems[i], n = field.Num(7), big.NewInt(7) // a product with 0 would tell nothing
		}
		sum.Add(sum, n)
		product.Mod(product.Mul(product, n), prime)
		check(t, "Add of many", field.Add(elems[:i+1]...), sum)
		check(t, "Mul of many", field.Mul(elems[:i+1]...), product)
	}
	check(t, "Mul with 0", field.Mul(append(elems, field.Num(0))...), new(big.Int))
}

func TestOfTheGreatest(t *testing.T) {
	l := make([]field.Elem, 3000)
	for i := range l {
		l[i] = field.Of(filled(0xec, 0xff, 0x7f))
	}
	check(t, "Add", field.Add(l...), big.NewInt(-3000))
	check(t, "Mul of even many", field.Mul(l...), big.NewInt(1))
	check(t, "Mul of odd many", field.Mul(l[1:]...), big.NewInt(-1))
}

func TestListsAreNotChanged(t *testing.T) {
	l, _ := few()
	was := slices.Clone(l)
	field.Add(l[:9]...)
	field.Mul(l[:9]...)
	if !slices.Equal(l, was) {
		t.Error("changed")
	}
}

func TestSubPastZero(t *testing.T) {
	if got := field.Sub(field.Num(0), field.Num(1)).Key(); got != filled(0xec, 0xff, 0x7f) {
		t.Errorf("%x", got)
	}
	elems, nums := few()
	for i, a := range elems {
		if field.Sub(a, a) != field.Num(0) || field.Sub(a, field.Num(0)) != a {
			t.Errorf("%x", a.Key())
		}
		check(t, "Sub of 0", field.Sub(field.Num(0), a), new(big.Int).Neg(nums[i]))
	}
}

func TestInv(t *testing.T) {
	if field.Inv(field.Num(0)) != field.Num(0) || field.Inv(field.Of(filled(0xed, 0xff, 0x7f))) != field.Num(0) {
		t.Error("of 0")
	}
	if field.Mul(field.Num(2), field.Inv(field.Num(2))) != field.Num(1) {
		t.Error("of 2")
	}
	elems, nums := few()
	for i, a := range elems {
		if nums[i].Sign() == 0 {
			continue
		}
		check(t, "Inv", field.Inv(a), new(big.Int).ModInverse(nums[i], prime))
		if field.Mul(a, field.Inv(a)) != field.Num(1) || field.Mul(field.Inv(a), a) != field.Num(1) {
			t.Errorf("%x", a.Key())
		}
	}
}

func TestPick(t *testing.T) {
	elems, _ := few()
	ns := []int{1, 0, -1, 2, 3, -2, 16, 17, 255, 256, 257, 1<<31 - 1, -1 << 31, math.MaxInt, math.MaxInt - 1, math.MinInt, math.MinInt + 1}
	for bit := 1; bit < 64; bit++ {
		ns = append(ns, 1<<bit, 1<<bit+1, -1<<bit+1)
	}
	for i, a := range elems {
		b := elems[(i+7)%len(elems)]
		for _, n := range ns {
			want := a
			if n == 1 {
				want = b
			}
			if got := field.Pick(n, a, b); got != want {
				t.Errorf("Pick(%d, %x, %x): %x", n, a.Key(), b.Key(), got.Key())
			}
		}
	}
}
