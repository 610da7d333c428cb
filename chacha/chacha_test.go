package chacha_test

import (
	"crypto/sha256"
	"encoding/binary"
	"encoding/hex"
	"strings"
	"testing"

	"billet/api"
	"billet/chacha"
)

const highest = 1<<32 - 1

const sunscreen = "Ladies and Gentlemen of the class of '99: If I could offer you only one tip for the future, sunscreen would be it."

const jabberwocky = "'Twas brillig, and the slithy toves\nDid gyre and gimble in the wabe:\nAll mimsy were the borogoves,\nAnd the mome raths outgrabe."

// plain is the text of hexadecimal digits.
func plain(t *testing.T, digits string) string {
	t.Helper()
	b, err := hex.DecodeString(digits)
	if err != nil {
		t.Fatal(digits, err)
	}
	return string(b)
}

// rising is the key 0, 1, .. 31.
func rising() api.Key {
	var k api.Key
	for i := range k {
		k[i] = byte(i)
	}
	return k
}

// full is the key and the nonce of ones alone.
func full() (api.Key, api.Nonce) {
	return api.Key([]byte(strings.Repeat("\xff", 32))), api.Nonce([]byte(strings.Repeat("\xff", 12)))
}

// some is a key and a nonce that look like chance, the same for the same seed.
func some(seed int) (api.Key, api.Nonce) {
	k := sha256.Sum256([]byte{byte(seed)})
	n := sha256.Sum256(k[:])
	return k, api.Nonce(n[:12])
}

// bytes is n bytes that look like chance.
func bytes(n int) string {
	var b strings.Builder
	for i := byte(0); b.Len() < n; i++ {
		s := sha256.Sum256([]byte{i, 1, byte(n)})
		b.Write(s[:])
	}
	return b.String()[:n]
}

// counts are those at the edges of a count's bytes, and the ones ahead of 0.
func counts() []uint32 {
	return []uint32{0, 1, 2, 0xff, 0x100, 0xffff, 0x10000, 0xffffff, 0x1000000, 0x12345678, 0x7fffffff, 0x80000000, highest - 2, highest - 1, highest}
}

// sizes are those about a block's edges.
func sizes() []int {
	return []int{0, 1, 2, 3, 4, 5, 62, 63, 64, 65, 66, 127, 128, 129, 191, 192, 193, 255, 256, 257, 1000, 4096}
}

// reference is a block as the standard's pictures have it: a square of rows, whose rows are turned so that diagonals stand as columns.
func reference(key api.Key, count uint32, nonce api.Nonce) string {
	first := make([]byte, 0, 64)
	first = append(first, "expand 32-byte k"...)
	first = append(first, key[:]...)
	first = binary.LittleEndian.AppendUint32(first, count)
	first = append(first, nonce[:]...)
	var square [4][4]uint64
	for i := range 16 {
		square[i/4][i%4] = uint64(binary.LittleEndian.Uint32(first[4*i:]))
	}
	for range 10 {
		square = columns(square)
		square = turned(square, 1)
		square = columns(square)
		square = turned(square, 3)
	}
	var out []byte
	for i := range 16 {
		sum := square[i/4][i%4] + uint64(binary.LittleEndian.Uint32(first[4*i:]))
		out = binary.LittleEndian.AppendUint32(out, uint32(sum%(1<<32)))
	}
	return string(out)
}

// columns is the square, a quarter round down each of its columns.
func columns(s [4][4]uint64) [4][4]uint64 {
	steps := []struct{ to, by, into, left int }{{0, 1, 3, 16}, {2, 3, 1, 12}, {0, 1, 3, 8}, {2, 3, 1, 7}}
	for c := range 4 {
		for _, x := range steps {
			s[x.to][c] = (s[x.to][c] + s[x.by][c]) % (1 << 32)
			wide := (s[x.into][c] ^ s[x.to][c]) << x.left
			s[x.into][c] = wide%(1<<32) + wide>>32
		}
	}
	return s
}

// turned is the square with each row moved to the left, by its number times by.
func turned(s [4][4]uint64, by int) [4][4]uint64 {
	var out [4][4]uint64
	for r := range 4 {
		for c := range 4 {
			out[r][c] = s[r][(c+r*by)%4]
		}
	}
	return out
}

// stream is at least n bytes of the reference's blocks, the first one of count.
func stream(key api.Key, count uint32, nonce api.Nonce, n int) string {
	var b strings.Builder
	for ; b.Len() < n; count++ {
		b.WriteString(reference(key, count, nonce))
	}
	return b.String()
}

// turnedBy is text with its bits turned by those of as many bytes of the other one.
func turnedBy(text, by string) string {
	b := []byte(text)
	for i := range b {
		b[i] ^= by[i]
	}
	return string(b)
}

// P3.1

func TestBlockOfTheStandard(t *testing.T) {
	ones, onesNonce := full()
	for _, x := range []struct {
		key   api.Key
		count uint32
		nonce api.Nonce
		want  string
	}{
		{rising(), 1, api.Nonce{3: 0x09, 7: 0x4a}, "10f1e7e4d13b5915500fdd1fa32071c4c7d1f4c733c068030422aa9ac3d46c4ed2826446079faa0914c2d705d98b02a2b5129cd1de164eb9cbd083e8a2503c4e"},
		{api.Key{}, 0, api.Nonce{}, "76b8e0ada0f13d90405d6ae55386bd28bdd219b8a08ded1aa836efcc8b770dc7da41597c5157488d7724e03fb8d84a376a43b8f41518a11cc387b669b2ee6586"},
		{api.Key{}, 1, api.Nonce{}, "9f07e7be5551387a98ba977c732d080dcb0f29a048e3656912c6533e32ee7aed29b721769ce64e43d57133b074d839d531ed1f28510afb45ace10a1f4b794d6f"},
		{api.Key{31: 1}, 1, api.Nonce{}, "3aeb5224ecf849929b9d828db1ced4dd832025e8018b8160b82284f3c949aa5a8eca00bbb4a73bdad192b5c42f73f2fd4e273644c8b36125a64addeb006c13a0"},
		{api.Key{1: 0xff}, 2, api.Nonce{}, "72d54dfbf12ec44b362692df94137f328fea8da73990265ec1bbbea1ae9af0ca13b25aa26cb4a648cb9b9d1be65b2c0924a66c54d545ec1b7374f4872e99f096"},
		{api.Key{}, 0, api.Nonce{11: 2}, "c2c64d378cd536374ae204b9ef933fcd1a8b2288b3dfa49672ab765b54ee27c78a970e0e955c14f3a88e741b97c286f75f8fc299e8148362fa198a39531bed6d"},
		{ones, highest, onesNonce, "d72b21cfa4b6b0c41d61f62b8a11159c6a4f63bc56c2035796c7ad37811121bbec56d54a530f3a933dd28a50feb23bfaf64f405be985f3718bdf4683e96be749"},
	} {
		if got := chacha.Block(x.key, x.count, x.nonce); got != plain(t, x.want) {
			t.Errorf("Block(%x, %d, %x) = %x", x.key, x.count, x.nonce, got)
		}
	}
}

func TestBlockBeginsAsTheChapterSays(t *testing.T) {
	got := chacha.Block(rising(), 1, api.Nonce{0, 0, 0, 9, 0, 0, 0, 0x4a, 0, 0, 0, 0})
	if len(got) != 64 || got[:4] != "\x10\xf1\xe7\xe4" {
		t.Errorf("%x", got)
	}
}

func TestBlockTakesTheLowestByteFirst(t *testing.T) {
	// each byte of the key, the count and the nonce is another one here
	nonce := api.Nonce{0x20, 0x21, 0x22, 0x23, 0x24, 0x25, 0x26, 0x27, 0x28, 0x29, 0x2a, 0x2b}
	want := plain(t, "562937eb5da203eef064de33b5f6d9011fcbf431838e7a2c1f035240e6454959e17a11c5d7f419b34c6125815d5ffa0e8cc08eddb1e96daf61d05f60a9e747d8")
	if got := chacha.Block(rising(), 0x12345678, nonce); got != want {
		t.Errorf("%x", got)
	}
}

func TestBlockAgainstTheReference(t *testing.T) {
	for _, count := range counts() {
		for seed := range 20 {
			key, nonce := some(seed)
			if chacha.Block(key, count, nonce) != reference(key, count, nonce) {
				t.Error(seed, count)
			}
		}
	}
}

func TestBlockHangsOnEachBit(t *testing.T) {
	key, nonce := some(1)
	for i := range 32 * 8 {
		k := key
		k[i/8] ^= 1 << (i % 8)
		if chacha.Block(k, 3, nonce) != reference(k, 3, nonce) {
			t.Error("key", i)
		}
	}
	for i := range 12 * 8 {
		n := nonce
		n[i/8] ^= 1 << (i % 8)
		if chacha.Block(key, 3, n) != reference(key, 3, n) {
			t.Error("nonce", i)
		}
	}
	for i := range 32 {
		if chacha.Block(key, 1<<i, nonce) != reference(key, 1<<i, nonce) {
			t.Error("count", i)
		}
	}
}

// P3.2

func TestMaskOfTheStandard(t *testing.T) {
	key := api.Key([]byte(plain(t, "1c9240a5eb55d38af333888604f6b5f0473917c1402b80099dca5cbc207075c0")))
	for _, x := range []struct {
		key        api.Key
		count      uint32
		nonce      api.Nonce
		text, want string
	}{
		{rising(), 1, api.Nonce{7: 0x4a}, sunscreen, "6e2e359a2568f98041ba0728dd0d6981e97e7aec1d4360c20a27afccfd9fae0bf91b65c5524733ab8f593dabcd62b3571639d624e65152ab8f530c359f0861d807ca0dbf500d6a6156a38e088a22b65e52bc514d16ccf806818ce91ab77937365af90bbf74a35be6b40b8eedf2785e42874d"},
		{key, 42, api.Nonce{11: 2}, jabberwocky, "62e6347f95ed87a45ffae7426f27a1df5fb69110044c0d73118effa95b01e5cf166d3df2d721caf9b21e5fb14c616871fd84c54f9d65b283196c7fe4f60553ebf39c6402c42234e32a356b3e764312a61a5532055716ead6962568f87d3f3f7704c6a8d1bcd1bf4d50d6154b6da731b187b58dfd728afa36757a797ac188d1"},
	} {
		if got := chacha.Mask(x.key, x.count, x.nonce, x.text); got != plain(t, x.want) {
			t.Errorf("%x", got)
		}
	}
}

func TestMaskOfTheEmptyText(t *testing.T) {
	for _, count := range counts() {
		key, nonce := some(int(count % 200))
		if got := chacha.Mask(key, count, nonce, ""); got != "" {
			t.Errorf("%d: %x", count, got)
		}
	}
}

func TestMaskAgainstTheReference(t *testing.T) {
	for _, count := range counts() {
		for _, n := range sizes() {
			key, nonce := some(n % 200)
			text := bytes(n)
			got := chacha.Mask(key, count, nonce, text)
			if got != turnedBy(text, stream(key, count, nonce, n)) {
				t.Error("mask", count, n)
			}
			if chacha.Mask(key, count, nonce, got) != text {
				t.Error("mask of mask", count, n)
			}
		}
	}
}

func TestMaskCountsRoundToNought(t *testing.T) {
	// the blocks of 0 and 1 behind the highest count's, as the standard has them
	last := chacha.Block(api.Key{}, highest, api.Nonce{})
	want := last + plain(t, "76b8e0ada0f13d90405d6ae55386bd28bdd219b8a08ded1aa836efcc8b770dc7da41597c5157488d7724e03fb8d84a376a43b8f41518a11cc387b669b2ee6586"+
		"9f07e7be5551387a98ba977c732d080dcb0f29a048e3656912c6533e32ee7aed29b721769ce64e43d57133b074d839d531ed1f28510afb45ace10a1f4b794d6f")
	for _, n := range []int{63, 64, 65, 128, 129, 192} {
		if got := chacha.Mask(api.Key{}, highest, api.Nonce{}, strings.Repeat("\x00", n)); got != want[:n] {
			t.Errorf("%d: %x", n, got)
		}
	}
}

func TestMaskOfNoughtsIsTheBlocks(t *testing.T) {
	key, nonce := some(5)
	for _, count := range counts() {
		all := ""
		for i := range uint32(3) {
			all += chacha.Block(key, count+i, nonce)
		}
		for _, n := range []int{1, 63, 64, 65, 128, 129, 192} {
			if chacha.Mask(key, count, nonce, strings.Repeat("\x00", n)) != all[:n] {
				t.Error(count, n)
			}
		}
	}
}

func TestMaskOfAllBytes(t *testing.T) {
	// bytes that are no runes are texts as well
	key, nonce := some(6)
	for b := range 256 {
		text := strings.Repeat(string([]byte{byte(b)}), 65)
		got := chacha.Mask(key, 9, nonce, text)
		if got != turnedBy(text, stream(key, 9, nonce, 65)) || chacha.Mask(key, 9, nonce, got) != text {
			t.Error(b)
		}
	}
}

func TestMaskKeepsNothing(t *testing.T) {
	// one call in another's wake answers what it answered ahead of it
	key, nonce := some(7)
	other, otherNonce := some(8)
	first := chacha.Mask(key, 1, nonce, sunscreen)
	block := chacha.Block(key, 1, nonce)
	chacha.Mask(other, highest, otherNonce, jabberwocky)
	if chacha.Mask(key, 1, nonce, sunscreen) != first || chacha.Block(key, 1, nonce) != block {
		t.Error("another answer")
	}
}

func BenchmarkMask(b *testing.B) {
	key, nonce := some(9)
	text := bytes(4096)
	b.SetBytes(4096)
	for b.Loop() {
		chacha.Mask(key, 1, nonce, text)
	}
}
