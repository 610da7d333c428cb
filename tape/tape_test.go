package tape_test

import (
	"crypto/sha256"
	"fmt"
	"math"
	"math/big"
	"slices"
	"strings"
	"testing"
	"unsafe"

	"billet/api"
	"billet/nat"
	"billet/tape"
)

// some is n bytes that look like chance, the same for the same seed.
func some(seed, n int) string {
	var b []byte
	for i := 0; len(b) < n; i++ {
		h := sha256.Sum256(fmt.Append(nil, seed, i))
		b = append(b, h[:]...)
	}
	return string(b[:n])
}

func noughts(n int) string {
	return strings.Repeat("\x00", n)
}

// plain is the tape as the chapter's words have it, byte by byte.
type plain struct {
	s  string
	at int
}

func (p *plain) take(n int) string {
	var b []byte
	for range n {
		c := byte(0)
		if p.at < len(p.s) {
			c = p.s[p.at]
		}
		b = append(b, c)
		p.at++
	}
	return string(b)
}

// below is Below of arguments that may be.
func (p *plain) below(n, tries int) (int, api.Errno) {
	for i := 0; i < tries; i++ {
		v := int(number(p.take(2)).Int64())
		if v < 65536-65536%n {
			return v % n, api.OK
		}
	}
	return 0, api.ErrCap
}

// under is Under of arguments that may be.
func (p *plain) under(w *big.Int, tries int) (*big.Int, api.Errno) {
	b := w.BitLen()
	for i := 0; i < tries; i++ {
		v := number(p.take((b + 7) / 8))
		v.Mod(v, pow2(b))
		if v.Cmp(w) < 0 {
			return v, api.OK
		}
	}
	return new(big.Int), api.ErrCap
}

// The library's own numbers.

func pow2(n int) *big.Int {
	return new(big.Int).Lsh(big.NewInt(1), uint(n))
}

func plus(a *big.Int, n int64) *big.Int {
	return new(big.Int).Add(a, big.NewInt(n))
}

// number is the number of a text's bytes, the lowest first.
func number(s string) *big.Int {
	b := []byte(s)
	slices.Reverse(b)
	return new(big.Int).SetBytes(b)
}

// text is a number's bytes, the lowest first, as many as size.
func text(n *big.Int, size int) string {
	b := n.FillBytes(make([]byte, size))
	slices.Reverse(b)
	return string(b)
}

// of is the library's number as one of nat's.
func of(n *big.Int) nat.Nat {
	return nat.Bytes(text(n, (n.BitLen()+7)/8))
}

// takes asks for the next n bytes and holds them, and Used, against what must come.
func takes(t *testing.T, p *tape.Tape, n int, want string, used int) {
	t.Helper()
	if got := p.Take(n); got != want {
		t.Errorf("Take(%d): %d bytes %.80q, not %d bytes %.80q", n, len(got), got, len(want), want)
	}
	if p.Used() != used {
		t.Errorf("after Take(%d): Used %d, not %d", n, p.Used(), used)
	}
}

// drawsBelow asks for a number below n of a tape of s and holds what it answers, and what it takes.
func drawsBelow(t *testing.T, s string, n, tries, want int, e api.Errno, used int) {
	t.Helper()
	p := tape.New(s)
	got, f := p.Below(n, tries)
	if got != want || f != e || p.Used() != used {
		t.Errorf("%.20q: Below(%d, %d): %d, %d, Used %d; not %d, %d, %d", s, n, tries, got, f, p.Used(), want, e, used)
	}
}

// drawsUnder asks for a number under w of a tape of s and holds what it answers, and what it takes.
func drawsUnder(t *testing.T, s string, w *big.Int, tries int, want *big.Int, e api.Errno, used int) {
	t.Helper()
	p := tape.New(s)
	got, f := p.Under(of(w), tries)
	if got.Text() != want.String() || f != e || p.Used() != used {
		t.Errorf("%.20q: Under(%.40s, %d): %.40s, %d, Used %d; not %.40s, %d, %d", s, w, tries, got.Text(), f, p.Used(), want, e, used)
	}
}

// P9.1

func TestNothingIsTakenOfANewTape(t *testing.T) {
	for _, s := range []string{"", "a", noughts(9), some(1, 1000)} {
		if n := tape.New(s).Used(); n != 0 {
			t.Error(len(s), n)
		}
	}
}

func TestTakeGoesOnFromWhereItStood(t *testing.T) {
	p := tape.New("abcdefghij")
	takes(t, p, 1, "a", 1)
	takes(t, p, 2, "bc", 3)
	takes(t, p, 0, "", 3)
	takes(t, p, 4, "defg", 7)
	takes(t, p, 3, "hij", 10) // just what is left
	takes(t, p, 0, "", 10)
	takes(t, p, 1, "\x00", 11)
	takes(t, p, 5, noughts(5), 16)
}

func TestTakeAcrossTheEnd(t *testing.T) {
	for size := range 20 {
		s := some(size, size)
		for first := range 25 {
			for next := range 25 {
				p, q := tape.New(s), &plain{s: s}
				for _, n := range []int{first, next, 0, 3} {
					want := q.take(n)
					takes(t, p, n, want, q.at)
				}
			}
		}
	}
}

func TestATapeOfNoBytes(t *testing.T) {
	p := tape.New("")
	takes(t, p, 0, "", 0)
	takes(t, p, 1, "\x00", 1)
	takes(t, p, 100, noughts(100), 101)
	takes(t, p, api.MaxTake, noughts(api.MaxTake), 101+api.MaxTake)
}

func TestTakeOfAllBytes(t *testing.T) {
	var b []byte
	for i := range 256 {
		b = append(b, byte(255-i))
	}
	takes(t, tape.New(string(b)), 256, string(b), 256)
	p := tape.New(string(b))
	for i := range 256 {
		takes(t, p, 1, string(b[i:i+1]), i+1)
	}
}

func TestTakeOfTheMost(t *testing.T) {
	for _, size := range []int{0, 1, api.MaxTake - 1, api.MaxTake, api.MaxTake + 1, 3 * api.MaxTake} {
		s := some(size, size)
		p, q := tape.New(s), &plain{s: s}
		for range 4 {
			want := q.take(api.MaxTake)
			takes(t, p, api.MaxTake, want, q.at)
		}
	}
}

func TestTakeOfWhatMayNotBe(t *testing.T) {
	wrong := []int{-1, -2, -16, -65536, math.MinInt32, math.MinInt, api.MaxTake + 1, api.MaxTake + 2, 2 * api.MaxTake, math.MaxInt32, math.MaxInt}
	for _, n := range wrong {
		takes(t, tape.New(""), n, "", 0)
		takes(t, tape.New(some(1, api.MaxTake+9)), n, "", 0)
		p := tape.New("abcd")
		takes(t, p, 3, "abc", 3)
		takes(t, p, n, "", 3)
		takes(t, p, 3, "d\x00\x00", 6)
		takes(t, p, n, "", 6)
		takes(t, p, 1, "\x00", 7)
	}
}

func TestKeyIsTheNext32Bytes(t *testing.T) {
	for size := range 70 {
		for ahead := range 40 {
			s := some(size, size)
			p, q := tape.New(s), &plain{s: s}
			takes(t, p, ahead, q.take(ahead), ahead)
			for range 3 {
				if k := p.Key(); string(k[:]) != q.take(32) || p.Used() != q.at {
					t.Errorf("%d, %d: %x, Used %d", size, ahead, k, p.Used())
				}
			}
			takes(t, p, 5, q.take(5), ahead+101)
		}
	}
}

func TestIDIsTheNext16Bytes(t *testing.T) {
	for size := range 40 {
		for ahead := range 20 {
			s := some(size, size)
			p, q := tape.New(s), &plain{s: s}
			takes(t, p, ahead, q.take(ahead), ahead)
			for range 3 {
				if id := p.ID(); string(id[:]) != q.take(16) || p.Used() != q.at {
					t.Errorf("%d, %d: %x, Used %d", size, ahead, id, p.Used())
				}
			}
			takes(t, p, 5, q.take(5), ahead+53)
		}
	}
}

func TestOfNil(t *testing.T) {
	var p *tape.Tape
	for _, n := range []int{-1, 0, 1, 16, 32, api.MaxTake, api.MaxTake + 1} {
		takes(t, p, n, "", 0)
	}
	if p.Key() != (api.Key{}) || p.ID() != (api.ID{}) || p.Used() != 0 {
		t.Error("not noughts")
	}
	for _, tries := range []int{-1, 0, 1, api.MaxTries, api.MaxTries + 1} {
		for _, n := range []int{-1, 0, 1, 5, 65536, 65537} {
			if v, e := p.Below(n, tries); v != 0 || e != api.ErrArg {
				t.Error("Below", n, tries, v, e)
			}
		}
		for _, n := range []int{0, 1, 5, 1023, 1024} {
			if v, e := p.Under(of(pow2(n)), tries); v.Bits() != 0 || e != api.ErrArg {
				t.Error("Under", n, tries, v.Text(), e)
			}
		}
		if v, e := p.Under(nat.Nat{}, tries); v.Bits() != 0 || e != api.ErrArg {
			t.Error("Under 0", tries, v.Text(), e)
		}
	}
	if p.Used() != 0 {
		t.Error("Used")
	}
}

func TestTapesGoOnByThemselves(t *testing.T) {
	a, b := tape.New("abc"), tape.New("abc")
	takes(t, a, 2, "ab", 2)
	takes(t, b, 1, "a", 1)
	takes(t, a, 1, "c", 3)
	takes(t, b, 2, "bc", 3)
	c := tape.New("xyz")
	takes(t, a, 1, "\x00", 4)
	takes(t, c, 3, "xyz", 3)
}

// P9.2: Below

func TestTheExamplesOfBelow(t *testing.T) {
	drawsBelow(t, "", 5, 1, 0, api.OK, 2)
	drawsBelow(t, "\xff\xff\x07\x00", 10, 2, 7, api.OK, 4)
	drawsBelow(t, "\xff\xff\x07\x00", 10, 1, 0, api.ErrCap, 2)
}

func TestBelowTakesTheLowestByteFirst(t *testing.T) {
	drawsBelow(t, "\x01\x02", 65536, 1, 0x201, api.OK, 2)
	drawsBelow(t, "\x02\x01", 65536, 1, 0x102, api.OK, 2)
	drawsBelow(t, "\xff\x00", 65536, 1, 255, api.OK, 2)
	drawsBelow(t, "\x00\xff", 65536, 1, 65280, api.OK, 2)
	drawsBelow(t, "\x07", 65536, 1, 7, api.OK, 2) // across the end
	drawsBelow(t, "\x2c\x01", 1000, 1, 300, api.OK, 2)
	drawsBelow(t, "\x2c\x01", 256, 1, 0x2c, api.OK, 2)
}

func TestBelowOfEveryPair(t *testing.T) {
	for _, n := range []int{1, 2, 3, 7, 10, 255, 256, 257, 32767, 32768, 32769, 65535, 65536} {
		counts := make([]int, n)
		for v := range 65536 {
			got, e := tape.New(string([]byte{byte(v), byte(v >> 8)})).Below(n, 1)
			switch {
			case v >= 65536-65536%n:
				if got != 0 || e != api.ErrCap {
					t.Fatal(n, v, got, e)
				}
			case got != v%n || e != api.OK:
				t.Fatal(n, v, got, e)
			default:
				counts[got]++
			}
		}
		if slices.Min(counts) != slices.Max(counts) || counts[0] != 65536/n {
			t.Error(n, "not all alike", slices.Min(counts), slices.Max(counts))
		}
	}
}

func TestBelowAboutTheEdgeOfEveryN(t *testing.T) {
	pair := func(v int) string { return string([]byte{byte(v), byte(v >> 8)}) }
	for n := 1; n <= 65536; n++ {
		edge := 65536 - 65536%n
		drawsBelow(t, pair(edge-1), n, 1, n-1, api.OK, 2)
		if edge < 65536 {
			drawsBelow(t, pair(edge), n, 1, 0, api.ErrCap, 2)
			drawsBelow(t, pair(edge)+pair(edge-1), n, 2, n-1, api.OK, 4)
		}
	}
}

func TestBelowTriesNoMoreThanItMay(t *testing.T) {
	for tries := 1; tries <= api.MaxTries; tries++ {
		for misses := range api.MaxTries + 3 {
			s := strings.Repeat("\xff\xff", misses) + "\x08\x00\x05\x00"
			if misses < tries {
				drawsBelow(t, s, 10, tries, 8, api.OK, 2*misses+2)
			} else {
				drawsBelow(t, s, 10, tries, 0, api.ErrCap, 2*tries)
			}
		}
	}
}

func TestBelowGoesOnBehindWhatWasTaken(t *testing.T) {
	p := tape.New("a\xff\xff\xff\xff\x0b\x00\xff\xff\x0cz")
	takes(t, p, 1, "a", 1)
	if v, e := p.Below(10, 2); v != 0 || e != api.ErrCap || p.Used() != 5 {
		t.Error(v, e, p.Used())
	}
	if v, e := p.Below(10, 1); v != 1 || e != api.OK || p.Used() != 7 {
		t.Error(v, e, p.Used())
	}
	takes(t, p, 3, "\xff\xff\x0c", 10)
	// across the end, and behind it
	if v, e := p.Below(100, 1); v != 'z'%100 || e != api.OK || p.Used() != 12 {
		t.Error(v, e, p.Used())
	}
	if v, e := p.Below(65536, 1); v != 0 || e != api.OK || p.Used() != 14 {
		t.Error(v, e, p.Used())
	}
}

func TestBelowOfWhatMayNotBe(t *testing.T) {
	for _, s := range []string{"", "abcd", strings.Repeat("\xff", 99)} {
		for _, n := range []int{0, -1, -5, -65536, math.MinInt, 65537, 65546, 131072, math.MaxInt32, math.MaxInt} {
			for _, tries := range []int{1, 2, api.MaxTries, 0, api.MaxTries + 1} {
				drawsBelow(t, s, n, tries, 0, api.ErrArg, 0)
			}
		}
		for _, tries := range []int{0, -1, math.MinInt, api.MaxTries + 1, math.MaxInt} {
			for _, n := range []int{1, 5, 65535, 65536} {
				drawsBelow(t, s, n, tries, 0, api.ErrArg, 0)
			}
		}
	}
}

func TestBelowAtItsBounds(t *testing.T) {
	for _, tries := range []int{1, api.MaxTries} {
		drawsBelow(t, "\xff\xff", 1, tries, 0, api.OK, 2)
		drawsBelow(t, "\xff\xff", 65536, tries, 65535, api.OK, 2)
		drawsBelow(t, "\xff\xff", 2, tries, 1, api.OK, 2)
	}
	drawsBelow(t, strings.Repeat("\xff", 40), 3, api.MaxTries, 0, api.ErrCap, 32)
	drawsBelow(t, strings.Repeat("\xff", 30), 3, api.MaxTries, 0, api.OK, 32) // the last try is noughts behind the end
}

func TestBelowOfChance(t *testing.T) {
	for seed := range 200 {
		s := some(seed, 400)
		p, q := tape.New(s), &plain{s: s}
		for i := range 60 {
			n, tries := 1+int(s[i])*256+int(s[i+1]), 1+int(s[i+2])%api.MaxTries
			got, e := p.Below(n, tries)
			if want, f := q.below(n, tries); got != want || e != f || p.Used() != q.at {
				t.Fatalf("Below(%d, %d): %d, %d, Used %d; not %d, %d, %d", n, tries, got, e, p.Used(), want, f, q.at)
			}
		}
	}
}

// P9.2: Under

// bounds are 1, powers of 2, one more and one less, rows of chance: all of 1,024 Bits at most.
func bounds() []*big.Int {
	var l []*big.Int
	for _, n := range []int{0, 1, 2, 3, 7, 8, 9, 15, 16, 17, 31, 32, 33, 63, 64, 65, 127, 128, 129, 512, 1000, 1015, 1016, 1017, 1022, 1023} {
		l = append(l, pow2(n), plus(pow2(n), 1), plus(pow2(n+1), -1))
	}
	for n := 1; n <= 128; n += 9 {
		l = append(l, plus(number(some(n, n)), 1))
	}
	return l
}

func TestUnderAboutItsBound(t *testing.T) {
	for _, w := range bounds() {
		b := w.BitLen()
		size := (b + 7) / 8
		nought, most := new(big.Int), plus(w, -1)
		drawsUnder(t, "", w, 1, nought, api.OK, size)
		drawsUnder(t, text(most, size), w, 1, most, api.OK, size)
		drawsUnder(t, text(w, size), w, 1, nought, api.ErrCap, size)
		drawsUnder(t, text(w, size)+text(most, size), w, 2, most, api.OK, 2*size)
		drawsUnder(t, text(w, size)+text(most, size), w, 1, nought, api.ErrCap, size)
		// what is above the b bits does not count, whatever it is
		for i := b; i < 8*size; i++ {
			over := pow2(i)
			drawsUnder(t, text(new(big.Int).Add(most, over), size), w, 1, most, api.OK, size)
			drawsUnder(t, text(new(big.Int).Add(w, over), size), w, 1, nought, api.ErrCap, size)
			drawsUnder(t, text(over, size), w, 1, nought, api.OK, size)
		}
		// the greatest of b bits, with ones above them
		ones := strings.Repeat("\xff", size)
		drawsUnder(t, ones, w, 1, nought, api.ErrCap, size)
		drawsUnder(t, ones+ones+text(most, size), w, 3, most, api.OK, 3*size)
	}
}

func TestUnderOfEveryByte(t *testing.T) {
	for w := 1; w < 256; w++ {
		b := big.NewInt(int64(w)).BitLen()
		counts := make([]int, w)
		for v := range 256 {
			got, e := tape.New(string([]byte{byte(v)})).Under(nat.Of(uint64(w)), 1)
			n, _ := got.Low()
			if low := v % (1 << b); low >= w {
				if n != 0 || e != api.ErrCap {
					t.Fatal(w, v, n, e)
				}
			} else if n != uint64(low) || e != api.OK {
				t.Fatal(w, v, n, e)
			} else {
				counts[n]++
			}
		}
		if slices.Min(counts) != slices.Max(counts) {
			t.Error(w, "not all alike", counts)
		}
	}
}

func TestUnderTakesTheLowestByteFirst(t *testing.T) {
	big300, n := big.NewInt(300), big.NewInt
	drawsUnder(t, "\x01\x00", big300, 1, n(1), api.OK, 2)
	drawsUnder(t, "\x00\x01", big300, 1, n(256), api.OK, 2)
	drawsUnder(t, "\x2b\x01", big300, 1, n(299), api.OK, 2)
	drawsUnder(t, "\x2c\x01", big300, 1, n(0), api.ErrCap, 2)
	drawsUnder(t, "\x07", big300, 1, n(7), api.OK, 2) // across the end
	var s []byte
	for i := range 127 {
		s = append(s, byte(i+1))
	}
	w := pow2(1020)
	drawsUnder(t, string(s)+"\xe0", w, 1, number(string(s)), api.OK, 128) // 1,021 bits: e0 is above them all
	drawsUnder(t, string(s)+"\xe7", w, 1, new(big.Int).Add(number(string(s)), new(big.Int).Lsh(n(7), 1016)), api.OK, 128)
	drawsUnder(t, string(s)+"\xf0", w, 1, n(0), api.ErrCap, 128)
}

func TestUnderTriesNoMoreThanItMay(t *testing.T) {
	for _, w := range []*big.Int{big.NewInt(1), big.NewInt(5), big.NewInt(256), big.NewInt(300), pow2(64), pow2(1023)} {
		size := (w.BitLen() + 7) / 8
		miss, hit := text(w, size), text(plus(w, -1), size)
		for tries := 1; tries <= api.MaxTries; tries++ {
			for misses := range api.MaxTries + 3 {
				s := strings.Repeat(miss, misses) + hit + noughts(size)
				if misses < tries {
					drawsUnder(t, s, w, tries, plus(w, -1), api.OK, size*(misses+1))
				} else {
					drawsUnder(t, s, w, tries, new(big.Int), api.ErrCap, size*tries)
				}
			}
		}
	}
}

func TestUnderGoesOnBehindWhatWasTaken(t *testing.T) {
	p := tape.New("a\x05\x06\x04\xff\xffz")
	takes(t, p, 1, "a", 1)
	five := nat.Of(5)
	if v, e := p.Under(five, 2); v.Bits() != 0 || e != api.ErrCap || p.Used() != 3 {
		t.Error(v.Text(), e, p.Used())
	}
	if v, e := p.Under(five, 1); v.Text() != "4" || e != api.OK || p.Used() != 4 {
		t.Error(v.Text(), e, p.Used())
	}
	takes(t, p, 2, "\xff\xff", 6)
	// across the end, and behind it
	if v, e := p.Under(nat.Of(1000), 1); v.Text() != "122" || e != api.OK || p.Used() != 8 {
		t.Error(v.Text(), e, p.Used())
	}
	if v, e := p.Under(nat.Of(1000), 1); v.Bits() != 0 || e != api.OK || p.Used() != 10 {
		t.Error(v.Text(), e, p.Used())
	}
}

func TestUnderOfWhatMayNotBe(t *testing.T) {
	nought := new(big.Int)
	for _, s := range []string{"", "abcd", strings.Repeat("\xff", 9999)} {
		for _, w := range []*big.Int{nought, pow2(1024), plus(pow2(1024), 1), pow2(1025), pow2(1031), pow2(2047), pow2(65536)} {
			for _, tries := range []int{1, 2, api.MaxTries, 0, api.MaxTries + 1} {
				drawsUnder(t, s, w, tries, nought, api.ErrArg, 0)
			}
		}
		for _, tries := range []int{0, -1, math.MinInt, api.MaxTries + 1, math.MaxInt} {
			for _, w := range []*big.Int{big.NewInt(1), big.NewInt(5), plus(pow2(1024), -1)} {
				drawsUnder(t, s, w, tries, nought, api.ErrArg, 0)
			}
		}
		p := tape.New(s)
		if v, e := p.Under(nat.Nat{}, 1); v.Bits() != 0 || e != api.ErrArg || p.Used() != 0 {
			t.Error("the zero value", v.Text(), e, p.Used())
		}
	}
}

func TestUnderAtItsBounds(t *testing.T) {
	most := plus(pow2(1024), -1)
	for _, tries := range []int{1, api.MaxTries} {
		drawsUnder(t, "\xfe", big.NewInt(1), tries, new(big.Int), api.OK, 1)
		drawsUnder(t, "\xfe"+strings.Repeat("\xff", 127), most, tries, plus(most, -1), api.OK, 128)
	}
	drawsUnder(t, strings.Repeat("\xff", 17), big.NewInt(1), api.MaxTries, new(big.Int), api.ErrCap, 16)
	drawsUnder(t, strings.Repeat("\xff", 128*17), most, api.MaxTries, new(big.Int), api.ErrCap, 128*16)
	drawsUnder(t, strings.Repeat("\xff", 128*15), most, api.MaxTries, new(big.Int), api.OK, 128*16) // the last try is noughts behind the end
}

func TestUnderOfChance(t *testing.T) {
	l := bounds()
	for seed := range 200 {
		s := some(seed, 2000)
		p, q := tape.New(s), &plain{s: s}
		for i := range 40 {
			w, tries := l[(seed+int(s[i]))%len(l)], 1+int(s[i+1])%api.MaxTries
			got, e := p.Under(of(w), tries)
			if want, f := q.under(w, tries); got.Text() != want.String() || e != f || p.Used() != q.at {
				t.Fatalf("Under(%.40s, %d): %.40s, %d, Used %d; not %.40s, %d, %d", w, tries, got.Text(), e, p.Used(), want, f, q.at)
			}
		}
	}
}

// Rules that hold everywhere

func TestCallsInAnyOrder(t *testing.T) {
	for seed := range 100 {
		s := some(seed, 300)
		p, q := tape.New(s), &plain{s: s}
		for i := range 40 {
			switch c := int(s[i]); c % 8 {
			case 0:
				if k := p.Key(); string(k[:]) != q.take(32) {
					t.Error("Key", seed, i)
				}
			case 1:
				if id := p.ID(); string(id[:]) != q.take(16) {
					t.Error("ID", seed, i)
				}
			case 2:
				got, e := p.Below(c+1, 1+c%16)
				if want, f := q.below(c+1, 1+c%16); got != want || e != f {
					t.Error("Below", seed, i)
				}
			case 3:
				w := pow2(c)
				got, e := p.Under(of(w), 1+c%16)
				if want, f := q.under(w, 1+c%16); got.Text() != want.String() || e != f {
					t.Error("Under", seed, i)
				}
			case 4:
				p.Below(c, 17) // ErrArg: nothing is taken
				p.Under(nat.Nat{}, 1)
				p.Take(-1)
			default:
				if p.Take(c) != q.take(c) {
					t.Error("Take", seed, i)
				}
			}
			if p.Used() != q.at {
				t.Fatal("Used", seed, i, p.Used(), q.at)
			}
		}
	}
}

func TestWhatIsToldIsNewMemory(t *testing.T) {
	s := some(1, 100)
	p := tape.New(s)
	a, b := p.Take(100), tape.New(s).Take(100)
	if a != s || b != s {
		t.Error("other bytes")
	}
	x, y, z := unsafe.StringData(s), unsafe.StringData(a), unsafe.StringData(b)
	if x == y || x == z || y == z {
		t.Error("shared")
	}
}

func TestTheNumberHandedInIsAsItWas(t *testing.T) {
	for _, n := range bounds() {
		w := of(n)
		p := tape.New(some(n.BitLen(), 5000))
		for tries := range api.MaxTries + 2 {
			p.Under(w, tries)
			if w.Text() != n.String() || w.Bits() != n.BitLen() {
				t.Fatal("changed", n)
			}
		}
		// nor does what is told hang on it, or change by what is done with it
		q := tape.New(text(plus(n, -1), (n.BitLen()+7)/8))
		v, _ := q.Under(w, 1)
		q.Under(w, 1)
		nat.Add(v, w)
		if v.Text() != plus(n, -1).String() || w.Text() != n.String() {
			t.Fatal("shared", n)
		}
	}
}

func TestTheTextHandedInIsAsItWas(t *testing.T) {
	b := []byte(some(1, 500))
	was := slices.Clone(b)
	p := tape.New(unsafe.String(&b[0], len(b)))
	p.Take(10)
	p.Key()
	p.ID()
	p.Below(3, api.MaxTries)
	p.Under(of(pow2(1001)), api.MaxTries)
	p.Under(nat.Of(1), api.MaxTries)
	if !slices.Equal(b, was) {
		t.Error("changed")
	}
}
