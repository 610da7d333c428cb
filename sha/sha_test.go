package sha_test

import (
	"crypto/sha256"
	"encoding/binary"
	"encoding/hex"
	"slices"
	"strings"
	"testing"

	"billet/api"
	"billet/sha"
)

// sizes are those about the edges of the blocks: of 55 bytes over a block the length still fits behind them, of 56 it makes one more.
func sizes() []int {
	return []int{0, 1, 55, 56, 57, 63, 64, 65, 119, 120, 127, 128, 129}
}

// rising is n bytes, each one greater than the one ahead of it by 7, round at 256.
func rising(n int) string {
	b := make([]byte, n)
	for i := range b {
		b[i] = byte(7*i + 3)
	}
	return string(b)
}

// some is n bytes that look like chance, the same for the same seed.
func some(seed, n int) string {
	var b strings.Builder
	for i := 0; b.Len() < n; i++ {
		s := sha256.Sum256([]byte{byte(seed), byte(seed >> 8), byte(i), byte(i >> 8)})
		b.Write(s[:])
	}
	return b.String()[:n]
}

// turned is the text with one of its bits turned.
func turned(text string, bit int) string {
	b := []byte(text)
	b[bit/8] ^= 1 << (bit % 8)
	return string(b)
}

// pieces is the text in parts of one size, the last one of what is left.
func pieces(text string, size int) []string {
	var parts []string
	for from := 0; from < len(text); from += size {
		parts = append(parts, text[from:min(from+size, len(text))])
	}
	return parts
}

// library is the digest by Go's own library, against which all is held.
func library(text string) api.Key {
	return sha256.Sum256([]byte(text))
}

// check holds the digest of parts against the library's.
func check(t *testing.T, parts ...string) {
	t.Helper()
	text := strings.Join(parts, "")
	if got, want := sha.Sum(parts...), library(text); got != want {
		t.Errorf("Sum of %d parts, %d bytes: %x, not %x", len(parts), len(text), got, want)
	}
}

// told holds a digest against hexadecimal digits.
func told(t *testing.T, what any, got api.Key, want string) {
	t.Helper()
	if hex.EncodeToString(got[:]) != want {
		t.Errorf("%v: %x, not %s", what, got, want)
	}
}

// P6.1: vectors

func TestExamples(t *testing.T) {
	told(t, "abc", sha.Sum("abc"), "ba7816bf8f01cfea414140de5dae2223b00361a396177a9cb410ff61f20015ad")
	told(t, "no parts", sha.Sum(), "e3b0c44298fc1c149afbf4c8996fb92427ae41e4649b934ca495991b7852b855")
}

// The texts are those of the standard's examples.
func TestSumOfTheStandard(t *testing.T) {
	for i, x := range []struct{ text, want string }{
		{"abcdbcdecdefdefgefghfghighijhijkijkljklmklmnlmnomnopnopq", "248d6a61d20638b8e5c026930c3e6039a33ce45964ff2167f6ecedd419db06c1"},
		{"abcdefghbcdefghicdefghijdefghijkefghijklfghijklmghijklmnhijklmnoijklmnopjklmnopqklmnopqrlmnopqrsmnopqrstnopqrstu", "cf5b16a778af8380036ce59e7b0492370b249b11e8f07a51afac45037afee9d1"},
		{"\xbd", "68325720aabd7c82f30f554b313d0570c95accbb7dc4b5aae11204c08ffe732b"},
		{"\xc9\x8c\x8e\x55", "7abc22c0ae5af26ce93dbb94433a0e0b2e119d014f8e7f65bd56c61ccccd9504"},
		{strings.Repeat("A", 1000), "c2e686823489ced2017f6059b8b239318b6364f6dcd835d0a519105a1eadd6e4"},
		{strings.Repeat("U", 1005), "f4d62ddec0f3dd90ea1380fa16a5ff8dc4c54b21740650f24afc4120903552b0"},
		{strings.Repeat("a", 1000000), "cdc76e5c9914fb9281a1c7e284d73e67f1809a48a497200e046d39ccc7112cd0"},
		{strings.Repeat("\x00", 1000000), "d29751f2649b32ff572b5e0a9f541ea660a50f94ff0beedfb0b692b924cc8025"},
	} {
		told(t, i, sha.Sum(x.text), x.want)
	}
}

// The digests are OpenSSL's.
func TestSumAboutABlocksEdges(t *testing.T) {
	for _, x := range []struct {
		n                   int
		rise, ones, noughts string
	}{
		{1, "084fed08b978af4d7d196a7446a86b58009e636b611db16211b65a9aadff29c5", "a8100ae6aa1940d0b663bb31cd466142ebbdbd5187131b92d93818987832eb89", "6e340b9cffb37a989ca544e6bb780a2c78901d3fb33738768511a30617afa01d"},
		{55, "e7313d333c272e639f790978283f9eb392e843d0f29b7016828bb1daa4aac70b", "aadaed00a3c5fbb8072ae7f1984ba8199fbe5272de427d11eaf31583af37db51", "02779466cdec163811d078815c633f21901413081449002f24aa3e80f0b88ef7"},
		{56, "4324d65f3c103567f5589c710bc08f8523f929a9272e3af36fc968e52abc6c27", "528ff50ab05e77bbbd224a9ec86165dbb6824a9a9efb544be0a1d57d5b416457", "d4817aa5497628e7c77e6b606107042bbba3130888c5f47a375e6179be789fbb"},
		{57, "35df609437dcfea3279283ab79fd554e2bf78f8f7ae2de532d8ee300b09e8f73", "6eaa0abf8d7eda3e157692f5191a59bc08196ac193f6ac3bdde2af54214f2240", "65a16cb7861335d5ace3c60718b5052e44660726da4cd13bb745381b235a1785"},
		{63, "81c80242132f230c3bd41b3e63bbcff16107339549214a99614ff26664625055", "d12449c8124182545ae91924286cc6af13528bcf62a5ddbd5e00b891fffc1b48", "c7723fa1e0127975e49e62e753db53924c1bd84b8ac1ac08df78d09270f3d971"},
		{64, "39e3d7b6b5d075d37d053ad89b24b41bef4f3c29760c84447cab3f3be1882241", "8667e718294e9e0df1d30600ba3eeb201f764aad2dad72748643e4a285e1d1f7", "f5a5fd42d16a20302798ef6ed309979b43003d2320d9f0e8ea9831a92759fb4b"},
		{65, "aacca6ff74fdbb296d165a45cecfa04e5127bc008770fbbdd48006f2d2fae95e", "855c9a28fff2bbbd71327165554a00c6fdd44d5d58c1f12b8fdff29b5d67f001", "98ce42deef51d40269d542f5314bef2c7468d401ad5d85168bfab4c0108f75f7"},
		{119, "9ce7368e4daf32341631b492e80359dc9f594b48453cd0dd5bf0b19279cc177e", "b863f94597d433ef2280e3b4656f13ea265a79bb8047287321c218905b03c99b", "f616b0d54e78571a9611f343c9f8e022e859e920381ab0e4d3da01e193a7bd7e"},
		{120, "7836b787757e95e58b3ca5aec90b1b004e8deba1e50e9675af9cabf1a13a04b5", "9088fee917e5a748c2f0b4f5458c1cbdabbd696291c69be6e605bae0ef779e8f", "6edd9f6f9cc92cded36e6c4a580933f9c9f1b90562b46903b806f21902a1a54f"},
		{127, "a8d23e75d936f303d248888d9b165ee543f4cbafcad3c9dd2a79bd84faa11d07", "67341bf96ebc543506d0ef5c98288263306e5454b082aba87e881d54c007fba7", "15dae5979058bfbf4f9166029b6e340ea3ca374fef578a11dc9e6e923860d7ae"},
		{128, "d2742f1f4ac6bb7ca2b239ee18402ba8b3f9f8e652d2a72973c2b9ba11c08cf6", "e9175db65a9789096ca9cb5524d3abc2107df03e3c9ba3af1aca628f9c5d3bd2", "38723a2e5e8a17aa7950dc008209944e898f69a7bd10a23c839d341e935fd5ca"},
		{129, "307f8fc2c1622b92762e818d39a185d4d667ad49a4b07ceae1f4afa008a93ec4", "c458df9bcd770f7a870b3bf6fa4c6f7c19d03c5015e40b0d8dbede68a0764e54", "2c80619d7e7c58257293cda3a878c13e5856f4e06f6f90601276f7b9179c9e07"},
	} {
		told(t, x.n, sha.Sum(rising(x.n)), x.rise)
		told(t, x.n, sha.Sum(strings.Repeat("\xff", x.n)), x.ones)
		told(t, x.n, sha.Sum(strings.Repeat("\x00", x.n)), x.noughts)
	}
}

func TestSumAgainstTheLibrary(t *testing.T) {
	for n := range 300 {
		for seed := range 5 {
			check(t, some(seed+n, n))
		}
		for _, b := range []string{"\x00", "\x01", "\x7f", "\x80", "\xff"} {
			check(t, strings.Repeat(b, n))
		}
	}
}

func TestSumOfAllBytes(t *testing.T) {
	// bytes that are no runes are texts as well
	for b := range 256 {
		one := string([]byte{byte(b)})
		check(t, one)
		check(t, strings.Repeat(one, 65))
	}
}

func TestSumOfLongTexts(t *testing.T) {
	// lengths whose bits take two bytes, three and four
	for _, n := range []int{4095, 4096, 4097, 8191, 8192, 65535, 65536, 1 << 20, 1<<21 - 1, 1 << 21, 1<<24 + 5} {
		check(t, some(n%1000, n))
	}
}

// The digests are OpenSSL's.
func TestSumOfMoreBitsThanAWordCounts(t *testing.T) {
	long := strings.Repeat("0123456789abcdef", 1<<16)
	parts := slices.Repeat([]string{long}, 1<<9) // 2^29 bytes, of one memory
	for _, x := range []struct {
		last, want string
	}{
		{long[:len(long)-1], "f2e9f11021f09c2d3591fc614efb0197380c4d52529093b760f86ac43ec294e7"},
		{long + "01234", "f3fb34818d915c3a2e88913d950045f5c218c6537f42fe9b2a70679611dced4f"},
	} {
		t.Run("", func(t *testing.T) {
			t.Parallel()
			told(t, len(x.last), sha.Sum(append(slices.Clone(parts[1:]), x.last)...), x.want)
		})
	}
}

// P6.1: parts

func TestSumOfNoBytes(t *testing.T) {
	for _, parts := range [][]string{nil, {}, {""}, {"", "", ""}, make([]string, 200)} {
		told(t, len(parts), sha.Sum(parts...), "e3b0c44298fc1c149afbf4c8996fb92427ae41e4649b934ca495991b7852b855")
	}
}

func TestSumOfPartsIsThatOfTheWhole(t *testing.T) {
	for _, n := range sizes() {
		text := some(n, n)
		want := library(text)
		for i := range n + 1 {
			for j := range n + 1 - i {
				if sha.Sum(text[:i], text[i:i+j], text[i+j:]) != want {
					t.Error("three parts", n, i, j)
				}
			}
			if sha.Sum(text[:i], text[i:]) != want || sha.Sum("", text[:i], "", "", text[i:], "") != want {
				t.Error("two parts", n, i)
			}
		}
	}
}

func TestSumOfPartsOfOneSize(t *testing.T) {
	text := some(2, 1000)
	for size := 1; size <= 200; size++ {
		parts := pieces(text, size)
		check(t, parts...)
		var parted []string
		for _, p := range parts {
			parted = append(parted, "", p)
		}
		check(t, parted...)
	}
}

func TestSumOfManyParts(t *testing.T) {
	text := some(3, 65536)
	for _, size := range []int{1, 63, 64, 65, 4096} {
		check(t, pieces(text, size)...)
	}
	// each part longer by a byte than the one ahead of it, so that all cuts of a block come to pass
	var parts []string
	for n := range 300 {
		parts = append(parts, some(n, n))
		check(t, parts...)
	}
}

func TestSumHangsOnTheBytesAndTheirOrder(t *testing.T) {
	for _, n := range sizes() {
		text := some(n, n)
		want := sha.Sum(text)
		for i := range 8 * n {
			other := turned(text, i)
			if sha.Sum(other) == want {
				t.Error("bit", n, i)
			}
			check(t, other)
		}
		for more := 1; more <= 65; more++ {
			if sha.Sum(text, strings.Repeat("\x00", more)) == want || sha.Sum(strings.Repeat("\x00", more), text) == want {
				t.Error("noughts", n, more)
			}
		}
	}
	if sha.Sum("ab", "c") == sha.Sum("c", "ab") {
		t.Error("order")
	}
}

// filled is a text with what the standard fills it up with, as bytes of a text of their own.
func filled(text string) string {
	b := append([]byte(text), 0x80)
	for len(b)%64 != 56 {
		b = append(b, 0)
	}
	return string(binary.BigEndian.AppendUint64(b, uint64(8*len(text))))
}

func TestSumOfWhatIsFilledUpAlready(t *testing.T) {
	for _, n := range sizes() {
		text := some(n, n)
		if sha.Sum(filled(text)) == sha.Sum(text) || sha.Sum(text, "\x80") == sha.Sum(text) {
			t.Error("alike", n)
		}
		check(t, filled(text))
		check(t, text, "\x80")
		check(t, filled(text), text)
	}
}

func TestSumOfSums(t *testing.T) {
	// bytes of all kinds come in there, and one wrong digest makes all behind it wrong
	var got, want api.Key
	for range 10000 {
		got, want = sha.Sum(string(got[:])), library(string(want[:]))
	}
	if got != want {
		t.Errorf("%x, not %x", got, want)
	}
}

// Rules that hold everywhere

func TestPartsAreNotChanged(t *testing.T) {
	parts := []string{"a", some(1, 20), "", some(2, 64), "spare", "room"}
	was := slices.Clone(parts)
	sha.Sum(parts[:4]...)
	if !slices.Equal(parts, was) {
		t.Error("changed")
	}
}

func TestSumKeepsNothing(t *testing.T) {
	// one call in another's wake answers what it answered ahead of it
	first := sha.Sum("a text", "in parts")
	sha.Sum(some(5, 100), "and 3")
	if sha.Sum("a text", "in parts") != first {
		t.Error("another answer")
	}
}

func BenchmarkSum(b *testing.B) {
	text := some(9, 4096)
	b.SetBytes(4096)
	for b.Loop() {
		sha.Sum(text)
	}
}
