package poly_test

import (
	"crypto/sha256"
	"encoding/hex"
	"math/big"
	"slices"
	"strings"
	"testing"

	"billet/api"
	"billet/poly"
)

const (
	noughts = "00000000000000000000000000000000"
	full    = "ffffffffffffffffffffffffffffffff"
	one     = "01000000000000000000000000000000"
	two     = "02000000000000000000000000000000"
)

const ietf = "Any submission to the IETF intended by the Contributor for publication as all or part of an IETF Internet-Draft or RFC and any statement made within the context of an IETF activity is considered an \"IETF Contribution\". Such statements include oral statements in IETF sessions, as well as written and electronic communications made at any time or place, which are addressed to"

const jabberwocky = "'Twas brillig, and the slithy toves\nDid gyre and gimble in the wabe:\nAll mimsy were the borogoves,\nAnd the mome raths outgrabe."

// modulus is 2^130 - 5, by the library's own numbers, against which all is held.
var modulus = new(big.Int).Sub(pow2(130), big.NewInt(5))

func pow2(n uint) *big.Int {
	return new(big.Int).Lsh(big.NewInt(1), n)
}

// number is the number of bytes, the lowest first.
func number(b string) *big.Int {
	l := []byte(b)
	slices.Reverse(l)
	return new(big.Int).SetBytes(l)
}

// sixteen is the lowest 16 bytes of a number, the lowest first.
func sixteen(n *big.Int) string {
	var b [16]byte
	new(big.Int).Mod(n, pow2(128)).FillBytes(b[:])
	slices.Reverse(b[:])
	return string(b[:])
}

// plain is the text of hexadecimal digits.
func plain(t *testing.T, digits string) string {
	t.Helper()
	b, err := hex.DecodeString(digits)
	if err != nil {
		t.Fatal(digits, err)
	}
	return string(b)
}

// key is a key's two halves.
func key(first, last string) api.Key {
	return api.Key([]byte(first + last))
}

// some is n bytes that look like chance, the same for the same seed.
func some(seed, n int) string {
	var b strings.Builder
	for i := 0; b.Len() < n; i++ {
		s := sha256.Sum256([]byte{byte(seed), byte(seed >> 8), byte(i), byte(i >> 8)})
		b.Write(s[:])
	}
	return b.String()[:n]
}

// someKey is a key that looks like chance.
func someKey(seed int) api.Key {
	return api.Key([]byte(some(seed+1000, 32)))
}

// factor is r, bit by bit as the chapter leaves them out.
func factor(k api.Key) *big.Int {
	first := []byte(string(k[:16]))
	for _, i := range []int{3, 7, 11, 15} {
		first[i] %= 16
	}
	for _, i := range []int{4, 8, 12} {
		first[i] -= first[i] % 4
	}
	return number(string(first))
}

// residue is h behind the last block, modulo 2^130 - 5.
func residue(k api.Key, text string) *big.Int {
	h := new(big.Int)
	for from := 0; from < len(text); from += 16 {
		h.Add(h, number(text[from:min(from+16, len(text))]+"\x01"))
		h.Mod(h.Mul(h, factor(k)), modulus)
	}
	return h
}

// reference is the tag by the library's own numbers.
func reference(k api.Key, text string) api.Tag {
	return api.Tag([]byte(sixteen(new(big.Int).Add(residue(k, text), number(string(k[16:]))))))
}

// check holds the tag of parts against the reference's.
func check(t *testing.T, k api.Key, parts ...string) {
	t.Helper()
	text := strings.Join(parts, "")
	if got, want := poly.Sum(k, parts...), reference(k, text); got != want {
		t.Errorf("Sum(%x, %x): %x, not %x", k, parts, got, want)
	}
}

// aimed is a text of two blocks of which h comes to target, modulo 2^130 - 5; r must not be 0.
func aimed(k api.Key, target *big.Int) string {
	wanted := new(big.Int).ModInverse(factor(k), modulus)
	wanted.Mul(wanted, target)
	for seed := 0; ; seed++ {
		first := some(seed, 16)
		block := new(big.Int).Sub(wanted, residue(k, first))
		block.Mod(block, modulus)
		if block.BitLen() == 129 { // 16 bytes and the byte 1 behind them
			return first + sixteen(block)
		}
	}
}

// P4.1: vectors

func TestSumOfTheStandard(t *testing.T) {
	secret := plain(t, "36e5f6b5c5e06070f0efca96227a863e")
	wide := "01000000000000000400000000000000"
	blocks := "e33594d7505e43b90000000000000000" + "3394d7505e4379cd0100000000000000" + noughts
	for i, x := range []struct{ key, text, want string }{
		{plain(t, "85d6be7857556d337f4452fe42d506a80103808afb0db2fd4abff6af4149f51b"), "Cryptographic Forum Research Group", "a8061dc1305136c6c22b8baf0c0127a9"},
		{plain(t, noughts+noughts), plain(t, strings.Repeat(noughts, 4)), noughts},
		{plain(t, noughts) + secret, ietf, "36e5f6b5c5e06070f0efca96227a863e"},
		{secret + plain(t, noughts), ietf, "f3477e7cd95417af89a6b8794c310cf0"},
		{plain(t, "1c9240a5eb55d38af333888604f6b5f0473917c1402b80099dca5cbc207075c0"), jabberwocky, "4541669a7eaaee61e708dc7cbcc5eb62"},
		{plain(t, two+noughts), plain(t, full), "03000000000000000000000000000000"},
		{plain(t, two+full), plain(t, two), "03000000000000000000000000000000"},
		{plain(t, one+noughts), plain(t, full+"f0ffffffffffffffffffffffffffffff"+"11000000000000000000000000000000"), "05000000000000000000000000000000"},
		{plain(t, one+noughts), plain(t, full+"fbfefefefefefefefefefefefefefefe"+"01010101010101010101010101010101"), noughts},
		{plain(t, two+noughts), plain(t, "fdffffffffffffffffffffffffffffff"), "faffffffffffffffffffffffffffffff"},
		{plain(t, wide+noughts), plain(t, blocks+one), "14000000000000005500000000000000"},
		{plain(t, wide+noughts), plain(t, blocks), "13000000000000000000000000000000"},
	} {
		k := api.Key([]byte(x.key))
		if got := poly.Sum(k, x.text); string(got[:]) != plain(t, x.want) {
			t.Errorf("%d: %x", i, got)
		}
		check(t, k, x.text)
	}
}

// The tags are OpenSSL's.
func TestSumAboutABlocksEdges(t *testing.T) {
	var rising api.Key
	for i := range rising {
		rising[i] = byte(i)
	}
	ones := key(plain(t, full), plain(t, full))
	for _, x := range []struct {
		n          int
		rise, high string
	}{
		{15, "5d6ba854aef3623ab81aa0860c70efe4", "fbff27e6030028e6030028e6030028ee"},
		{16, "a438fd3012dfd5343a24319fac979eff", "fbffff17faffff17faffff17faffff17"},
		{17, "c6ac9b188a8e6c83bbf68080665fc386", "7cfe7ff768f81f2763f8bf565df85f86"},
		{32, "22272d14815007432adde5a8d5d6424c", "5400801f3f00204f3900c07e330060ae"},
		{33, "89cf0e0f61b78acb8453973f19815e4a", "86fa6a437bf4ec24a274504dc37495bc"},
	} {
		text := make([]byte, x.n)
		for i := range text {
			text[i] = byte(7*i + 3)
		}
		if got := poly.Sum(rising, string(text)); hex.EncodeToString(got[:]) != x.rise {
			t.Errorf("%d: %x", x.n, got)
		}
		if got := poly.Sum(ones, strings.Repeat("\xff", x.n)); hex.EncodeToString(got[:]) != x.high {
			t.Errorf("%d of ff: %x", x.n, got)
		}
	}
}

func TestSumAgainstTheReference(t *testing.T) {
	ones, nones := key(plain(t, full), plain(t, full)), api.Key{}
	for n := range 130 {
		for seed := range 10 {
			check(t, someKey(seed), some(seed+n, n))
		}
		for _, k := range []api.Key{ones, nones, someKey(n), key(plain(t, one), plain(t, noughts)), key(plain(t, two), plain(t, full))} {
			check(t, k, strings.Repeat("\xff", n))
			check(t, k, strings.Repeat("\x00", n))
		}
	}
	for _, n := range []int{1000, 4095, 4096, 4097, 65536} {
		check(t, someKey(n), some(n, n))
		check(t, ones, strings.Repeat("\xff", n))
	}
}

// P4.1: parts

func TestSumOfNoBytesIsTheKeysLastHalf(t *testing.T) {
	for seed := range 20 {
		k := someKey(seed)
		for _, parts := range [][]string{nil, {}, {""}, {"", "", ""}, make([]string, 40)} {
			if got := poly.Sum(k, parts...); got != api.Tag(k[16:]) {
				t.Errorf("%d parts: %x, of the key %x", len(parts), got, k)
			}
		}
	}
}

func TestSumOfPartsIsThatOfTheWhole(t *testing.T) {
	k := someKey(1)
	if poly.Sum(k, "ab", "c") != poly.Sum(k, "abc") {
		t.Error("the chapter's example")
	}
	for _, n := range []int{1, 2, 15, 16, 17, 31, 32, 33, 47, 48, 49} {
		text := some(n, n)
		want := reference(k, text)
		for i := range n + 1 {
			for j := range n + 1 - i {
				if poly.Sum(k, text[:i], text[i:i+j], text[i+j:]) != want {
					t.Error("three parts", n, i, j)
				}
			}
			if poly.Sum(k, text[:i], text[i:]) != want || poly.Sum(k, "", text[:i], "", "", text[i:], "") != want {
				t.Error("two parts", n, i)
			}
		}
	}
}

func TestSumOfPartsOfOneSize(t *testing.T) {
	k := someKey(2)
	text := some(2, 1000)
	for size := 1; size <= 70; size++ {
		var parts []string
		for from := 0; from < len(text); from += size {
			parts = append(parts, text[from:min(from+size, len(text))], "")
		}
		check(t, k, parts...)
	}
}

func TestSumHangsOnTheBytesAndTheirOrder(t *testing.T) {
	k := someKey(3)
	for _, n := range []int{1, 15, 16, 17, 32, 33} {
		text := some(n, n)
		want := poly.Sum(k, text)
		for i := range 8 * n {
			b := []byte(text)
			b[i/8] ^= 1 << (i % 8)
			if poly.Sum(k, string(b)) == want {
				t.Error("bit", n, i)
			}
			check(t, k, string(b))
		}
		// a block that is filled up with noughts is another one
		for more := 1; more <= 17; more++ {
			if poly.Sum(k, text, strings.Repeat("\x00", more)) == want {
				t.Error("noughts behind", n, more)
			}
		}
	}
	if poly.Sum(k, "ab", "c") == poly.Sum(k, "c", "ab") {
		t.Error("order")
	}
}

func TestSumOfAllBytes(t *testing.T) {
	// bytes that are no runes are texts as well
	for b := range 256 {
		check(t, someKey(b), strings.Repeat(string([]byte{byte(b)}), 33))
	}
}

func TestPartsAreNotChanged(t *testing.T) {
	parts := []string{"a", some(1, 20), "", some(2, 16), "spare", "room"}
	was := slices.Clone(parts)
	poly.Sum(someKey(4), parts[:4]...)
	if !slices.Equal(parts, was) {
		t.Error("changed")
	}
}

func TestSumKeepsNothing(t *testing.T) {
	// one call in another's wake answers what it answered ahead of it
	first := poly.Sum(someKey(5), jabberwocky)
	poly.Sum(someKey(6), ietf, "and 3")
	if poly.Sum(someKey(5), jabberwocky) != first {
		t.Error("another answer")
	}
}

// P4.1: the key

func TestKeysBitsThatAreLeftOut(t *testing.T) {
	text := some(7, 40)
	for seed := range 5 {
		k := someKey(seed)
		want := poly.Sum(k, text)
		for i := range 16 * 8 {
			other := k
			other[i/8] ^= 1 << (i % 8)
			// the highest four of the bytes 3, 7, 11, 15, and the lowest two of 4, 8, 12
			out := i/8%4 == 3 && i%8 >= 4 || i/8%4 == 0 && i/8 > 0 && i%8 < 2
			if (poly.Sum(other, text) == want) != out {
				t.Error(seed, i)
			}
			check(t, other, text)
		}
	}
}

func TestEachBitOfTheKeyAlone(t *testing.T) {
	for i := range 32 * 8 {
		var k api.Key
		k[i/8] = 1 << (i % 8)
		check(t, k, some(i, 50))
		check(t, k, strings.Repeat("\xff", 33))
	}
}

// P4.1: edges of the numbers

func TestSumsAboutTheModulus(t *testing.T) {
	// r is 1, so h is what the blocks come to: three of 2^128 and more, of which two make up what is missing to the target
	k := key(plain(t, one), plain(t, noughts))
	for d := int64(-40); d <= 40; d++ {
		rest := new(big.Int).Add(modulus, big.NewInt(d))
		rest.Sub(rest, new(big.Int).Mul(pow2(127), big.NewInt(7)))
		text := sixteen(rest) + sixteen(pow2(127)) + plain(t, noughts)
		want := new(big.Int).Mod(big.NewInt(d), modulus)
		if got := poly.Sum(k, text); string(got[:]) != sixteen(want) {
			t.Errorf("2^130 - 5 and %d: %x", d, got)
		}
		check(t, k, text, text)
	}
}

func TestSumsThatAreAimed(t *testing.T) {
	var targets []*big.Int
	for _, n := range []*big.Int{new(big.Int), pow2(64), pow2(65), pow2(127), pow2(128), pow2(129), new(big.Int).Add(pow2(128), pow2(129)), modulus} {
		for d := int64(-6); d <= 6; d++ {
			x := new(big.Int).Add(n, big.NewInt(d))
			targets = append(targets, x.Mod(x, modulus))
		}
	}
	lasts := []string{plain(t, noughts), plain(t, one), plain(t, full), "\xff\xff\xff\xff\xff\xff\xff\xff" + plain(t, "0000000000000000"), some(1, 16)}
	for seed := range 12 {
		for _, target := range targets {
			first := some(seed+50, 16)
			text := aimed(key(first, lasts[0]), target)
			for _, last := range lasts {
				k := key(first, last)
				if residue(k, text).Cmp(target) != 0 {
					t.Fatal("aimed at another number", seed, target)
				}
				check(t, k, text)
				check(t, k, text, "more")
			}
		}
	}
}

func TestLastSumBeyondSixteenBytes(t *testing.T) {
	for seed := range 20 {
		first := some(seed, 16)
		text := some(seed+20, 35)
		h := residue(key(first, plain(t, noughts)), text)
		low := number(sixteen(h))
		for d := int64(-3); d <= 3; d++ {
			// what is missing to 2^128, and a little less or more
			last := new(big.Int).Sub(pow2(128), low)
			last.Add(last, big.NewInt(d))
			got := poly.Sum(key(first, sixteen(last)), text)
			if string(got[:]) != sixteen(big.NewInt(d)) {
				t.Errorf("%d, %d: %x", seed, d, got)
			}
		}
		check(t, key(first, plain(t, full)), text)
	}
}

func BenchmarkSum(b *testing.B) {
	k := someKey(9)
	text := some(9, 4096)
	b.SetBytes(4096)
	for b.Loop() {
		poly.Sum(k, text)
	}
}
