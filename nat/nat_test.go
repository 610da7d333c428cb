package nat_test

import (
	"crypto/sha256"
	"fmt"
	"math"
	"math/big"
	"math/bits"
	"slices"
	"strconv"
	"strings"
	"testing"

	"billet/api"
	"billet/nat"
)

// The library's own numbers, against which all is held.

func pow2(n int) *big.Int {
	return new(big.Int).Lsh(big.NewInt(1), uint(n))
}

func plus(a *big.Int, n int64) *big.Int {
	return new(big.Int).Add(a, big.NewInt(n))
}

// text is a number's bytes, the lowest first.
func text(n *big.Int) string {
	b := n.Bytes()
	slices.Reverse(b)
	return string(b)
}

// number is the number of a text's bytes, the lowest first.
func number(s string) *big.Int {
	b := []byte(s)
	slices.Reverse(b)
	return new(big.Int).SetBytes(b)
}

// of is the library's number as one of nat's.
func of(n *big.Int) nat.Nat {
	return nat.Bytes(text(n))
}

// some is n bytes that look like chance, the same for the same seed.
func some(seed, n int) string {
	var b []byte
	for i := 0; len(b) < n; i++ {
		h := sha256.Sum256(fmt.Append(nil, seed, i))
		b = append(b, h[:]...)
	}
	return string(b[:n])
}

// numbers are 0, those about powers of 2 where bytes and words end, rows of ones and of chance.
func numbers() []*big.Int {
	l := []*big.Int{new(big.Int), big.NewInt(1), big.NewInt(2), big.NewInt(10)}
	for _, n := range []int{8, 16, 31, 32, 33, 63, 64, 65, 127, 128, 129, 192, 256, 320, 1024} {
		l = append(l, plus(pow2(n), -2), plus(pow2(n), -1), pow2(n), plus(pow2(n), 1))
	}
	for n := 1; n < 40; n += 3 {
		l = append(l, number(some(n, n)))
	}
	// noughts, and ones, in the middle
	l = append(l, new(big.Int).Add(pow2(200), pow2(3)), new(big.Int).Sub(pow2(200), pow2(70)), number(some(1, 8)+strings.Repeat("\x00", 16)+some(2, 8)))
	slices.SortFunc(l, (*big.Int).Cmp)
	return slices.CompactFunc(l, func(a, b *big.Int) bool { return a.Cmp(b) == 0 })
}

// is holds all that a number tells of itself against the library's.
func is(t *testing.T, what any, got nat.Nat, want *big.Int) {
	t.Helper()
	if got.Text() != want.String() {
		t.Errorf("%v: Text %.60s, not %.60s", what, got.Text(), want.String())
	}
	if got.Bits() != want.BitLen() {
		t.Errorf("%v: Bits %d, not %d", what, got.Bits(), want.BitLen())
	}
	low, ok := got.Low()
	if ok != want.IsUint64() || ok && low != want.Uint64() || !ok && low != 0 {
		t.Errorf("%v: Low %d, %v of %.60s", what, low, ok, want.String())
	}
	if nat.Cmp(got, of(want)) != 0 || nat.Cmp(of(want), got) != 0 {
		t.Errorf("%v: not the same as %.60s", what, want.String())
	}
}

func TestExamples(t *testing.T) {
	is(t, "Mul()", nat.Mul(), big.NewInt(1))
	p, e := nat.Pow(nat.Of(10), 20)
	if e != api.OK || p.Text() != "1"+strings.Repeat("0", 20) {
		t.Error("Pow", p.Text(), e)
	}
	d, ok := nat.Sub(nat.Of(1), nat.Of(2))
	if ok {
		t.Error("Sub")
	}
	is(t, "beside false", d, new(big.Int))
}

// P8.1

func TestZeroValue(t *testing.T) {
	var zero nat.Nat
	nought, five := new(big.Int), big.NewInt(5)
	is(t, "zero", zero, nought)
	is(t, "Of", nat.Of(0), nought)
	is(t, "Bytes", nat.Bytes(""), nought)
	for _, a := range []nat.Nat{zero, nat.Of(0), nat.Bytes("\x00")} {
		if nat.Cmp(a, zero) != 0 || nat.Cmp(zero, a) != 0 || nat.Cmp(zero, nat.Of(1)) != -1 || nat.Cmp(nat.Of(1), zero) != 1 {
			t.Error("Cmp")
		}
		is(t, "Add", nat.Add(zero, nat.Of(5), a), five)
		is(t, "Add of noughts", nat.Add(zero, a), nought)
		is(t, "Mul", nat.Mul(a, nat.Of(5)), nought)
		is(t, "Mul", nat.Mul(nat.Of(5), a), nought)
		d, ok := nat.Sub(a, zero)
		if !ok {
			t.Error("Sub of 0 and 0")
		}
		is(t, "Sub", d, nought)
		d, ok = nat.Sub(nat.Of(5), a)
		if !ok {
			t.Error("Sub of 5 and 0")
		}
		is(t, "Sub", d, five)
		if d, ok = nat.Sub(a, nat.Of(1)); ok {
			t.Error("Sub of 0 and 1")
		}
		is(t, "Sub", d, nought)
		p, e := nat.Pow(a, 3)
		if e != api.OK {
			t.Error("Pow", e)
		}
		is(t, "Pow", p, nought)
	}
}

func TestOf(t *testing.T) {
	l := []uint64{0, 9, 10, 11, 99, 100, 1e18, 1e19 - 1, 1e19, 1e19 + 1, math.MaxUint64 - 1, math.MaxUint64}
	for i := range 64 {
		l = append(l, 1<<i-1, 1<<i, 1<<i+1)
	}
	for _, n := range l {
		a := nat.Of(n)
		low, ok := a.Low()
		if a.Text() != strconv.FormatUint(n, 10) || a.Bits() != bits.Len64(n) || low != n || !ok {
			t.Error(n, a.Text(), a.Bits(), low, ok)
		}
		is(t, n, a, new(big.Int).SetUint64(n))
	}
}

func TestBytes(t *testing.T) {
	for _, x := range []struct{ s, want string }{
		{"", "0"},
		{"\x00", "0"},
		{"\x01", "1"},
		{"\xff", "255"},
		{"\x00\x01", "256"},
		{"\x01\x00", "1"},
		{"\x01\x02", "513"},
		{"\x02\x01", "258"},
		{"\x01\x02\x03\x04\x05\x06\x07\x08", "578437695752307201"},
		{"\x01\x02\x03\x04\x05\x06\x07\x08\x09", "166599134359138271745"},
		{"\x00\x00\x00\x00\x00\x00\x00\x80", "9223372036854775808"},
		{"\xff\xff\xff\xff\xff\xff\xff\xff", "18446744073709551615"},
		{"\x00\x00\x00\x00\x00\x00\x00\x00\x01", "18446744073709551616"},
		{"\xff\xff\xff\xff\xff\xff\xff\xff\xff\xff\xff\xff\xff\xff\xff\xff", "340282366920938463463374607431768211455"},
		{"\u00e9", "43459"}, // its bytes are c3 a9: bytes count, not runes
	} {
		if got := nat.Bytes(x.s).Text(); got != x.want {
			t.Errorf("%x: %s, not %s", x.s, got, x.want)
		}
	}
}

func TestBytesOfAllLengths(t *testing.T) {
	for n := range 100 {
		s := some(n, n)
		want := number(s)
		is(t, n, nat.Bytes(s), want)
		is(t, n, nat.Bytes(strings.Repeat("\x00", n)), new(big.Int))
		// noughts behind weigh nothing, noughts ahead push the others up
		for k := range 20 {
			noughts := strings.Repeat("\x00", k)
			is(t, n, nat.Bytes(s+noughts), want)
			is(t, n, nat.Bytes(noughts+s), new(big.Int).Lsh(want, uint(8*k)))
		}
	}
	is(t, "long", nat.Bytes("\x07"+strings.Repeat("\x00", 1<<20)), big.NewInt(7))
}

func TestBytesOfOneByteAtEachPlace(t *testing.T) {
	for at := range 26 {
		for b := range 256 {
			s := strings.Repeat("\x00", at) + string([]byte{byte(b)}) + strings.Repeat("\x00", 25-at)
			is(t, at, nat.Bytes(s), new(big.Int).Lsh(big.NewInt(int64(b)), uint(8*at)))
		}
	}
}

func TestText(t *testing.T) {
	ten := big.NewInt(10)
	for n := range 130 {
		p := new(big.Int).Exp(ten, big.NewInt(int64(n)), nil)
		noughts := strings.Repeat("0", n)
		if got := of(p).Text(); got != "1"+noughts {
			t.Error(n, got)
		}
		if got := of(plus(p, -1)).Text(); n > 0 && got != strings.Repeat("9", n) {
			t.Error(n, got)
		}
		if got := of(plus(p, 1)).Text(); n > 0 && got != "1"+noughts[1:]+"1" {
			t.Error(n, got)
		}
		// noughts within, as few and as many as may be
		for m := range n {
			sum := new(big.Int).Add(p, new(big.Int).Exp(ten, big.NewInt(int64(m)), nil))
			if got := of(sum).Text(); got != "1"+noughts[m+1:]+"1"+noughts[:m] {
				t.Error(n, m, got)
			}
		}
	}
	for n := range 40 {
		for _, b := range []*big.Int{pow2(64 * n), plus(pow2(64*n), -1), number(some(n, 100*n))} {
			if got := of(b).Text(); got != b.String() {
				t.Errorf("%d: %.60s, not %.60s", n, got, b.String())
			}
		}
	}
}

func TestBits(t *testing.T) {
	if nat.Of(0).Bits() != 0 || nat.Of(1).Bits() != 1 {
		t.Error("of 0, of 1")
	}
	for n := range 700 {
		if got := of(pow2(n)).Bits(); got != n+1 {
			t.Error("of a power", n, got)
		}
		if got := of(plus(pow2(n), -1)).Bits(); got != n {
			t.Error("of one less", n, got)
		}
		if got := of(plus(pow2(n), 1)).Bits(); n > 0 && got != n+1 {
			t.Error("of one more", n, got)
		}
	}
	for _, n := range []int{1<<16 - 1, 1 << 16, 1 << 20} {
		if got := of(pow2(n)).Bits(); got != n+1 {
			t.Error("of a great power", n, got)
		}
	}
}

func TestLow(t *testing.T) {
	for _, x := range []struct {
		n    *big.Int
		want uint64
		ok   bool
	}{
		{new(big.Int), 0, true},
		{big.NewInt(1), 1, true},
		{pow2(32), 1 << 32, true},
		{pow2(63), 1 << 63, true},
		{plus(pow2(64), -2), math.MaxUint64 - 1, true},
		{plus(pow2(64), -1), math.MaxUint64, true},
		{pow2(64), 0, false},
		{plus(pow2(64), 1), 0, false},
		{plus(pow2(65), -1), 0, false},
		{pow2(128), 0, false},
		{plus(pow2(128), 1), 0, false},
		{number(some(1, 100)), 0, false},
	} {
		if got, ok := of(x.n).Low(); got != x.want || ok != x.ok {
			t.Errorf("%v: %d, %v", x.n, got, ok)
		}
	}
}

func TestCmp(t *testing.T) {
	l := numbers()
	for i, a := range l {
		for k, b := range l {
			if got := nat.Cmp(of(a), of(b)); got != min(max(i-k, -1), 1) {
				t.Errorf("%v, %v: %d", a, b, got)
			}
		}
		x := of(a)
		if nat.Cmp(x, x) != 0 {
			t.Errorf("%v and itself", a)
		}
	}
}

func TestCmpOfNumbersThatDifferInOneByte(t *testing.T) {
	for n := 1; n < 40; n++ {
		s := some(n, n-1) + "\x07"
		for at := range n {
			b := []byte(s)
			b[at]++ // round at 256: then it is less
			want := 1
			if b[at] == 0 {
				want = -1
			}
			if got := nat.Cmp(nat.Bytes(string(b)), nat.Bytes(s)); got != want {
				t.Errorf("%d, %d: %d, not %d", n, at, got, want)
			}
			if got := nat.Cmp(nat.Bytes(s), nat.Bytes(string(b))); got != -want {
				t.Errorf("%d, %d: %d, not %d", n, at, got, -want)
			}
		}
	}
	// a higher byte counts for more than all those below it
	if nat.Cmp(nat.Bytes("\xff\xff\xff\xff\xff\xff\xff\xff\x01"), nat.Bytes("\x00\x00\x00\x00\x00\x00\x00\x00\x02")) != -1 {
		t.Error("across words")
	}
	// noughts behind don't make a number longer
	if nat.Cmp(nat.Bytes("\x02"), nat.Bytes("\x01"+strings.Repeat("\x00", 99))) != 1 {
		t.Error("noughts behind")
	}
}

// P8.2: Add and Sub

func TestAdd(t *testing.T) {
	is(t, "of none", nat.Add(), new(big.Int))
	is(t, "of none", nat.Add([]nat.Nat{}...), new(big.Int))
	l := numbers()
	for i, a := range l {
		is(t, "of one", nat.Add(of(a)), a)
		for k, b := range l {
			sum := new(big.Int).Add(a, b)
			is(t, "of two", nat.Add(of(a), of(b)), sum)
			c := l[(7*i+k)%len(l)]
			is(t, "of three", nat.Add(of(a), of(b), of(c)), sum.Add(sum, c))
		}
	}
}

func TestAddOfMany(t *testing.T) {
	var row []nat.Nat
	sum := new(big.Int)
	for n := range 300 {
		is(t, n, nat.Add(row...), sum)
		x := number(some(n, n%50))
		row = append(row, of(x))
		sum.Add(sum, x)
	}
	is(t, "of ones", nat.Add(slices.Repeat([]nat.Nat{nat.Of(math.MaxUint64)}, 1000)...), new(big.Int).Mul(plus(pow2(64), -1), big.NewInt(1000)))
	is(t, "of noughts", nat.Add(make([]nat.Nat, 1000)...), new(big.Int))
}

func TestAddCarriesThroughEveryByte(t *testing.T) {
	for n := 1; n < 70; n++ {
		ones := nat.Bytes(strings.Repeat("\xff", n))
		is(t, n, nat.Add(ones, nat.Of(1)), pow2(8*n))
		is(t, n, nat.Add(nat.Of(1), ones), pow2(8*n))
		is(t, n, nat.Add(ones, ones), plus(pow2(8*n+1), -2))
		is(t, n, nat.Add(ones, nat.Of(1), ones, nat.Of(1)), pow2(8*n+1))
		for k := range n {
			// the carry begins at the k-th byte
			is(t, n, nat.Add(ones, of(pow2(8*k))), plus(new(big.Int).Add(pow2(8*n), pow2(8*k)), -1))
		}
	}
}

func TestSub(t *testing.T) {
	l := numbers()
	for i, a := range l {
		for k, b := range l {
			got, ok := nat.Sub(of(a), of(b))
			if ok != (i >= k) {
				t.Errorf("%v, %v: %v", a, b, ok)
			}
			want := new(big.Int)
			if ok {
				want.Sub(a, b)
			}
			is(t, "Sub", got, want)
		}
		x := of(a)
		got, ok := nat.Sub(x, x)
		if !ok {
			t.Errorf("%v less itself", a)
		}
		is(t, "less itself", got, new(big.Int))
		// just above: false
		if got, ok = nat.Sub(x, of(plus(a, 1))); ok {
			t.Errorf("%v less one more", a)
		}
		is(t, "less one more", got, new(big.Int))
	}
}

func TestSubTakesOverThroughManyBytes(t *testing.T) {
	for n := 1; n < 70; n++ {
		p := of(pow2(8 * n))
		for k := range 8 * n {
			got, ok := nat.Sub(p, of(pow2(k)))
			if !ok {
				t.Error(n, k)
			}
			is(t, n, got, new(big.Int).Sub(pow2(8*n), pow2(k)))
		}
		got, ok := nat.Sub(p, nat.Bytes(strings.Repeat("\xff", n)))
		if !ok {
			t.Error(n)
		}
		is(t, n, got, big.NewInt(1))
	}
}

func TestSubTakesBackWhatAddAdded(t *testing.T) {
	l := numbers()
	for _, a := range l {
		for _, b := range l {
			got, ok := nat.Sub(nat.Add(of(a), of(b)), of(b))
			if !ok {
				t.Errorf("%v, %v", a, b)
			}
			is(t, "back", got, a)
		}
	}
}

// P8.2: Mul and Pow

func TestMul(t *testing.T) {
	is(t, "of none", nat.Mul(), big.NewInt(1))
	is(t, "of none", nat.Mul([]nat.Nat{}...), big.NewInt(1))
	l := numbers()
	for i, a := range l {
		is(t, "of one", nat.Mul(of(a)), a)
		is(t, "with 1", nat.Mul(nat.Of(1), of(a), nat.Of(1)), a)
		is(t, "with 0", nat.Mul(of(a), nat.Nat{}, of(a)), new(big.Int))
		is(t, "0 ahead", nat.Mul(nat.Of(0), of(a)), new(big.Int))
		is(t, "0 behind", nat.Mul(of(a), nat.Of(0)), new(big.Int))
		for k, b := range l {
			product := new(big.Int).Mul(a, b)
			is(t, "of two", nat.Mul(of(a), of(b)), product)
			c := l[(7*i+k)%len(l)]
			is(t, "of three", nat.Mul(of(a), of(b), of(c)), product.Mul(product, c))
		}
	}
}

func TestMulOfMany(t *testing.T) {
	var row []nat.Nat
	product := big.NewInt(1)
	for n := range 200 {
		is(t, n, nat.Mul(row...), product)
		x := number(some(n, 1+n%20) + "\x01")
		row = append(row, of(x))
		product.Mul(product, x)
	}
	is(t, "with 0", nat.Mul(append(row, nat.Nat{})...), new(big.Int))
	is(t, "of ones", nat.Mul(slices.Repeat([]nat.Nat{nat.Of(1)}, 1000)...), big.NewInt(1))
}

func TestMulOfLongRows(t *testing.T) {
	// rows of ones make the greatest carries
	for n := 1; n < 300; n += 13 {
		for m := 1; m < 300; m += 17 {
			a, b := plus(pow2(8*n), -1), plus(pow2(8*m), -1)
			is(t, n, nat.Mul(of(a), of(b)), new(big.Int).Mul(a, b))
			a, b = number(some(n, n)), number(some(m, m))
			is(t, n, nat.Mul(of(a), of(b)), new(big.Int).Mul(a, b))
		}
	}
}

func TestPow(t *testing.T) {
	for _, a := range numbers() {
		want := big.NewInt(1)
		for n := range 40 {
			got, e := nat.Pow(of(a), n)
			if e != api.OK {
				t.Fatalf("%v, %d: %d", a, n, e)
			}
			is(t, n, got, want)
			want = new(big.Int).Mul(want, a)
		}
	}
	for n := range 600 {
		got, e := nat.Pow(nat.Of(3), n)
		if e != api.OK {
			t.Error(n, e)
		}
		is(t, n, got, new(big.Int).Exp(big.NewInt(3), big.NewInt(int64(n)), nil))
	}
}

func TestPowOfNought(t *testing.T) {
	// a has no bits: no n is too great
	for _, a := range []nat.Nat{{}, nat.Of(0), nat.Bytes("\x00")} {
		for _, n := range []int{1, 2, 3, 65536, 65537, 1 << 40, math.MaxInt - 1, math.MaxInt} {
			got, e := nat.Pow(a, n)
			if e != api.OK {
				t.Error(n, e)
			}
			is(t, n, got, new(big.Int))
		}
	}
}

func TestPowOfOne(t *testing.T) {
	for _, n := range []int{0, 1, 2, 1000, 65535, 65536} {
		got, e := nat.Pow(nat.Of(1), n)
		if e != api.OK {
			t.Error(n, e)
		}
		is(t, n, got, big.NewInt(1))
	}
}

func TestPowZero(t *testing.T) {
	great := []*big.Int{pow2(api.MaxBits - 1), pow2(api.MaxBits), pow2(10 * api.MaxBits)}
	for _, a := range append(numbers(), great...) {
		got, e := nat.Pow(of(a), 0)
		if e != api.OK {
			t.Errorf("%.60s: %d", a.String(), e)
		}
		is(t, "n 0", got, big.NewInt(1))
	}
}

func TestPowBelowZero(t *testing.T) {
	for _, a := range append(numbers(), pow2(api.MaxBits)) {
		for _, n := range []int{-1, -2, -65536, -65537, math.MinInt + 1, math.MinInt} {
			got, e := nat.Pow(of(a), n)
			if e != api.ErrArg {
				t.Errorf("%.60s, %d: %d", a.String(), n, e)
			}
			is(t, "ErrArg", got, new(big.Int))
		}
	}
}

func TestPowAboutMaxBits(t *testing.T) {
	for _, b := range []int{1, 2, 3, 4, 7, 8, 63, 64, 65, 100, 1024, 4095, 4096, 4097, 32767, 32768, 32769, 65535, 65536} {
		most := api.MaxBits / b
		for _, a := range []*big.Int{pow2(b - 1), plus(pow2(b), -1)} {
			got, e := nat.Pow(of(a), most)
			if e != api.OK {
				t.Error(b, most, e)
			}
			want := new(big.Int).Exp(a, big.NewInt(int64(most)), nil)
			if nat.Cmp(got, of(want)) != 0 || got.Bits() != want.BitLen() {
				t.Error("another number", b, most)
			}
			for _, n := range []int{most + 1, 2 * most, api.MaxBits + 1, 1 << 32, 1 << 60, 1 << 61, 1 << 62, math.MaxInt} {
				if n <= most {
					continue
				}
				got, e = nat.Pow(of(a), n)
				if e != api.ErrLong {
					t.Error(b, n, e)
				}
				is(t, "ErrLong", got, new(big.Int))
			}
		}
	}
	for _, b := range []int{65537, 65538, 1 << 17, 1 << 20} {
		for _, n := range []int{1, 2, math.MaxInt} {
			got, e := nat.Pow(of(pow2(b-1)), n)
			if e != api.ErrLong {
				t.Error(b, n, e)
			}
			is(t, "ErrLong", got, new(big.Int))
		}
	}
}

// Rules that hold everywhere

func TestNumbersStayAsTheyWere(t *testing.T) {
	l := numbers()
	var row []nat.Nat
	for _, a := range l {
		row = append(row, of(a))
	}
	var made []nat.Nat
	for i := range row {
		a, b := row[i], row[(i+1)%len(row)]
		a.Text()
		a.Bits()
		a.Low()
		nat.Cmp(a, b)
		d, _ := nat.Sub(a, b)
		p, _ := nat.Pow(a, 5)
		made = append(made, nat.Add(a), nat.Add(a, b), nat.Mul(a), nat.Mul(a, b), d, p)
	}
	nat.Add(row...)
	nat.Add(made...)
	nat.Mul(row...)
	for i, a := range l {
		is(t, "handed in", row[i], a)
	}
}

func TestListsStayAsTheyWere(t *testing.T) {
	row := []nat.Nat{nat.Of(1), nat.Of(math.MaxUint64), of(pow2(100)), nat.Of(7), of(pow2(200))}
	nat.Add(row[:3]...)
	nat.Mul(row[:3]...)
	nat.Add(row[:0]...)
	nat.Mul(row[:0]...)
	for i, want := range []*big.Int{big.NewInt(1), plus(pow2(64), -1), pow2(100), big.NewInt(7), pow2(200)} {
		is(t, i, row[i], want)
	}
	// and what was made stays, whatever becomes of the list
	sum, product := nat.Add(row[:2]...), nat.Mul(row[1:2]...)
	row[0], row[1] = nat.Of(3), nat.Of(4)
	is(t, "sum", sum, pow2(64))
	is(t, "product", product, plus(pow2(64), -1))
}

func TestWhatIsMadeOfOneNumberIsNotShared(t *testing.T) {
	// numbers whose rows may have spare room at their ends: two sums over one must not meet in it
	ones := plus(pow2(128), -1)
	product := nat.Mul(of(plus(pow2(64), -1)), nat.Of(1))
	rest, _ := nat.Sub(of(plus(pow2(192), 5)), of(pow2(192)))
	sum := nat.Add(of(ones), nat.Of(1))
	for _, a := range []nat.Nat{product, rest, sum, nat.Add(of(ones)), nat.Mul(of(ones)), nat.Bytes("\x05" + strings.Repeat("\x00", 40))} {
		was, _ := new(big.Int).SetString(a.Text(), 10)
		x, y, z := nat.Add(a, of(pow2(150))), nat.Add(a, of(ones)), nat.Add(a, a)
		d, _ := nat.Sub(a, nat.Of(1))
		is(t, "the first", x, new(big.Int).Add(was, pow2(150)))
		is(t, "the second", y, new(big.Int).Add(was, ones))
		is(t, "the third", z, new(big.Int).Add(was, was))
		is(t, "the fourth", d, plus(was, -1))
		is(t, "what they are made of", a, was)
	}
}

func TestOneCallAnswersTheSameAgain(t *testing.T) {
	a, b := of(number(some(1, 50))), of(number(some(2, 30)))
	text, sum, product := a.Text(), nat.Add(a, b), nat.Mul(a, b)
	d, _ := nat.Sub(a, b)
	p, _ := nat.Pow(a, 7)
	for range 3 {
		e, _ := nat.Sub(a, b)
		q, _ := nat.Pow(a, 7)
		if a.Text() != text || nat.Cmp(nat.Add(a, b), sum) != 0 || nat.Cmp(nat.Mul(a, b), product) != 0 || nat.Cmp(d, e) != 0 || nat.Cmp(p, q) != 0 {
			t.Error("another answer")
		}
	}
}
