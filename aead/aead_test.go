package aead_test

import (
	"crypto/sha256"
	"encoding/binary"
	"encoding/hex"
	"math/big"
	"slices"
	"strings"
	"testing"

	"billet/aead"
	"billet/api"
	"billet/chacha"
	"billet/poly"
)

const sunscreen = "Ladies and Gentlemen of the class of '99: If I could offer you only one tip for the future, sunscreen would be it."

const drafts = "Internet-Drafts are draft documents valid for a maximum of six months and may be updated, replaced, or obsoleted by other documents at any time. It is inappropriate to use Internet-Drafts as reference material or to cite them other than as /\xe2\x80\x9cwork in progress./\xe2\x80\x9d"

// sizes are those about the edges of the tag's blocks and of the mask's: to a multiple of 16 none, one or fifteen noughts are missing.
func sizes() []int {
	return []int{0, 1, 15, 16, 17, 63, 64, 65}
}

// raw is the text of hexadecimal digits.
func raw(t *testing.T, digits string) string {
	t.Helper()
	b, err := hex.DecodeString(digits)
	if err != nil {
		t.Fatal(digits, err)
	}
	return string(b)
}

// rising is n bytes, each one greater than the one ahead of it by step, round at 256.
func rising(from, step, n int) string {
	b := make([]byte, n)
	for i := range b {
		b[i] = byte(from + step*i)
	}
	return string(b)
}

// key and nonce are those of bytes.
func key(b string) api.Key     { return api.Key([]byte(b)) }
func nonce(b string) api.Nonce { return api.Nonce([]byte(b)) }

// some is n bytes that look like chance, the same for the same seed.
func some(seed, n int) string {
	var b strings.Builder
	for i := 0; b.Len() < n; i++ {
		s := sha256.Sum256([]byte{byte(seed), byte(seed >> 8), byte(i), byte(i >> 8)})
		b.Write(s[:])
	}
	return b.String()[:n]
}

// own is a key and a nonce that look like chance.
func own(seed int) (api.Key, api.Nonce) {
	return key(some(seed+1000, 32)), nonce(some(seed+2000, 12))
}

// turned is the text with one of its bits turned.
func turned(text string, bit int) string {
	b := []byte(text)
	b[bit/8] ^= 1 << (bit % 8)
	return string(b)
}

// reference is a Seal as the chapter says it, its tag made of one text.
func reference(k api.Key, n api.Nonce, extra, text string) string {
	c := chacha.Mask(k, 1, n, text)
	var b []byte
	for _, part := range []string{extra, c} {
		b = append(b, part...)
		for len(b)%16 != 0 {
			b = append(b, 0)
		}
	}
	b = binary.LittleEndian.AppendUint64(b, uint64(len(extra)))
	b = binary.LittleEndian.AppendUint64(b, uint64(len(c)))
	tag := poly.Sum(key(chacha.Block(k, 0, n)[:32]), string(b))
	return c + string(tag[:])
}

// opens holds what Open tells against the text that it should tell.
func opens(t *testing.T, k api.Key, n api.Nonce, extra, sealed, text string) {
	t.Helper()
	if got, ok := aead.Open(k, n, extra, sealed); !ok || got != text {
		t.Errorf("Open(%x, %x, %d bytes, %d bytes): %q, %v", k, n, len(extra), len(sealed), got, ok)
	}
}

// refused says that Open must tell false, and no byte beside it.
func refused(t *testing.T, k api.Key, n api.Nonce, extra, sealed string) {
	t.Helper()
	if got, ok := aead.Open(k, n, extra, sealed); ok || got != "" {
		t.Errorf("Open(%x, %x, %x, %x): %q, %v", k, n, extra, sealed, got, ok)
	}
}

// P5.1: Seal

func TestSealOfTheStandard(t *testing.T) {
	for i, x := range []struct{ key, nonce, extra, text, want string }{
		{rising(0x80, 1, 32), raw(t, "070000004041424344454647"), raw(t, "50515253c0c1c2c3c4c5c6c7"), sunscreen,
			"d31a8d34648e60db7b86afbc53ef7ec2a4aded51296e08fea9e2b5a736ee62d63dbea45e8ca9671282fafb69da92728b1a71de0a9e060b2905d6a5b67ecd3b3692ddbd7f2d778b8c9803aee328091b58fab324e4fad675945585808b4831d7bc3ff4def08e4b7a9de576d26586cec64b6116" +
				"1ae10b594f09e26a7e902ecbd0600691"},
		{raw(t, "1c9240a5eb55d38af333888604f6b5f0473917c1402b80099dca5cbc207075c0"), raw(t, "000000000102030405060708"), raw(t, "f33388860000000000004e91"), drafts,
			"64a0861575861af460f062c79be643bd5e805cfd345cf389f108670ac76c8cb24c6cfc18755d43eea09ee94e382d26b0bdb7b73c321b0100d4f03b7f355894cf332f830e710b97ce98c8a84abd0b948114ad176e008d33bd60f982b1ff37c8559797a06ef4f0ef61c186324e2b3506383606907b6a7c02b0f9f6157b53c867e4b9166c767b804d46a59b5216cde7a4e99040c5a40433225ee282a1b0a06c523eaf4534d7f83fa1155b0047718cbc546a0d072b04b3564eea1b422273f548271a0bb2316053fa76991955ebd63159434ecebb4e466dae5a1073a6727627097a1049e617d91d361094fa68f0ff77987130305beaba2eda04df997b714d6c6f2c29a6ad5cb4022b02709b" +
				"eead9d67890cbb22392336fea1851f38"},
	} {
		k, n := key(x.key), nonce(x.nonce)
		if got := aead.Seal(k, n, x.extra, x.text); got != raw(t, x.want) {
			t.Errorf("%d: %x", i, got)
		}
		opens(t, k, n, x.extra, raw(t, x.want), x.text)
	}
}

// The sealed texts are OpenSSL's.
func TestSealOfOnesAndOfNoughts(t *testing.T) {
	for _, x := range []struct{ of, want string }{
		{"\xff", "22d8bfc313e141bd692c82cec7785b295f8ddae08dbbc49a2deb545ef8a39534d83f2fcc541115447aacde84500b24875e"},
		{"\x00", "9f07e7be5551387a98ba977c732d080dcb0f29a048e3656912c6533e32ee7aed29c362366f983a41e66b200099989abb36"},
	} {
		k, n, text := key(strings.Repeat(x.of, 32)), nonce(strings.Repeat(x.of, 12)), strings.Repeat(x.of, 33)
		if got := aead.Seal(k, n, text, text); got != raw(t, x.want) {
			t.Errorf("%x: %x", x.of, got)
		}
		opens(t, k, n, text, raw(t, x.want), text)
	}
}

// The masked text and the tags are OpenSSL's: a row for each size of extra, a column for each size of the text.
func TestSealAboutTheEdges(t *testing.T) {
	masked := raw(t, "70ed99640ec9d10ea087e4981e61ead40814ffba9fff02e92d5384647b750ecee05d73ae331dda73ffedc42757cf260c9656040de1257d162594554181ed31dc5c")
	tags := [8][8]string{
		{"6476f776c18a19e817637727ca2c640f", "765a6afa7e18dc96daa8477fbbc923f2", "9cb6f1a8d26238649061d72c98a0d93b", "6af7bd4b48f2e35d0923c8b43796767d", "025c3369602ecfa41c092dcdcbd6c32b", "f9ebb8c2c9c24f05937e83550505f8c6", "a6a53dccb76a2f2a23d59bc005f282ed", "4ed89e01660d46d29bc747e56713ff2d"},
		{"b3d29aae19b0a3f7c65cc4202402be24", "e7f9fc4f4e8b905360ea45488728f59b", "085684fea1d5ec2016a3d5f563ffaae5", "db9650a11765981a8f64c67d03f54727", "63f61b0e52de70ed3e4abf4c7b0e80d7", "e9b08afc5010f6c9ab64f5af375f81ff", "966a0f063fb8d5ee3bbb0d1b384c0c26", "91c0dccedab6a987763cd2a29b09a332"},
		{"31a5866bfe78f89a3bca465df657084b", "9b031576114795d9706b6936466a13aa", "c15f9c246591f1a62624f9e32241c9f3", "8fa068c7da209da09fe5e96bc2366635", "2d61c990d9ac967254b3b86e0ae0d23b", "c1ed8fe99520f9d7b1da1553a21b86e5", "6ea714f383c8d8fc41312ebea208110c", "fa9862801dc73f497686f01c33fe78b1"},
		{"1180aef6145b06009cb5df388d59688c", "62a536d371c7a2c15be2972f1e4c2bad", "8801be81c511ff8e119b27ddfa22e1f6", "5b428a243ba1aa888a5c18659a187e38", "466e747c58af392532d226a6b0f22bbf", "84f201b302c0144778ad95ebdd6c9235", "31ac86bcf067f46b0804ae56de591d5c", "6ffa68d7bf8c547a329c99e426d8a098"},
		{"4d77e902b63f4cb7739454238bfa60a2", "499fab528fa598db9a9847a8d601a4ea", "6ffb3201e3eff4a85051d755b3d85934", "3d3cffa3587fa0a2c912c8dd52cef675", "de524b00d9077b3a8d5afec7c3fecc41", "d648fca9190f1e4fd138a19c577417f7", "830281b307b7fd73618fb9075861a21d", "f2840065851d9a4219e24a6babd05e8d"},
		{"447d3646434917ff2f3b968a66ca5e92", "8ea8f9addbeea2df01f4c58bf93ee440", "b404815c2f39ffacb7ac5539d6159a8a", "82454dffa4c8aaa6306e46c1750b37cc", "6039522b13e55416eb9c39f8e3728391", "ab82173095987db7cb8de45de160759e", "583c9c3983405ddc5be4fcc8e14d00c5", "d1a2d663520d7bdf4742434ad2010351"},
		{"dd49cf9e4a5c8dbabe507e2cbfba9a9d", "b1391fbc24c1420001660f517ef47f8c", "d795a66a780b9fcdb61e9ffe5acb35d6", "aad6720dee9a4ac72fe08f86fac0d217", "fa48329c71fd49c3dbf60a6e53e2ccc3", "79da675d73297802b5cd50a4549f342f", "2694ec6661d157274524690f558cbf55", "237ef916592271bfef467cf7f0ea6adb"},
		{"669fc6dfa693464991a3ba1dbd0adb64", "462a5c426947b7eea4005b1f8348ee8b", "6786e3f0bc9113bc5ab9eacc5f1fa4d5", "3ac7af933221bfb5d37adb54ff144117", "c96d7b49b78be2f68de725a931f51256", "c7059cce0299c8793ecc7439131a6c2f", "74bf20d8f040a89ece228da41307f755", "bacfd42eafbe16f197da8ca1b4245c46"},
	}
	k, n := key(rising(0, 1, 32)), nonce(rising(0x20, 1, 12))
	for i, extras := range sizes() {
		for j, size := range sizes() {
			extra, text := rising(5, 11, extras), rising(3, 7, size)
			want := masked[:size] + raw(t, tags[i][j])
			if got := aead.Seal(k, n, extra, text); got != want {
				t.Errorf("%d, %d: %x", extras, size, got)
			}
			opens(t, k, n, extra, want, text)
		}
	}
}

func TestSealAgainstTheReference(t *testing.T) {
	for extras := range 36 {
		for size := range 100 {
			k, n := own(extras + size)
			extra, text := some(extras, extras), some(size+500, size)
			got := aead.Seal(k, n, extra, text)
			if got != reference(k, n, extra, text) || len(got) != size+16 {
				t.Errorf("%d, %d: %x", extras, size, got)
			}
			opens(t, k, n, extra, got, text)
		}
	}
}

func TestSealOfLongTexts(t *testing.T) {
	// lengths of one byte, of two, three and four
	for _, size := range []int{255, 256, 1000, 64 * 256, 65535, 65536, 1<<24 + 5} {
		k, n := own(size)
		long := strings.Repeat("l", size)
		for _, x := range [][2]string{{long, "text"}, {"extra", long}} {
			got := aead.Seal(k, n, x[0], x[1])
			if got != reference(k, n, x[0], x[1]) || len(got) != len(x[1])+16 {
				t.Error(size, len(x[1]))
			}
			opens(t, k, n, x[0], got, x[1])
		}
	}
}

func TestSealHangsOnAll(t *testing.T) {
	k, n := own(1)
	extra, text := some(1, 20), some(2, 20)
	base := aead.Seal(k, n, extra, text)
	differs := func(what string, bit int, got string) {
		if got == base {
			t.Error(what, bit)
		}
	}
	for i := range 32 * 8 {
		differs("key", i, aead.Seal(key(turned(string(k[:]), i)), n, extra, text))
	}
	for i := range 12 * 8 {
		differs("nonce", i, aead.Seal(k, nonce(turned(string(n[:]), i)), extra, text))
	}
	for i := range 20 * 8 {
		differs("extra", i, aead.Seal(k, n, turned(extra, i), text))
		differs("text", i, aead.Seal(k, n, extra, turned(text, i)))
	}
}

func TestExtraIsNoneOfTheBytes(t *testing.T) {
	// extra is in the tag alone
	k, n := own(2)
	for _, size := range sizes() {
		text := some(size, size)
		for _, extras := range sizes() {
			if got := aead.Seal(k, n, some(extras, extras), text); len(got) != size+16 || got[:size] != chacha.Mask(k, 1, n, text) {
				t.Errorf("%d, %d: %x", extras, size, got)
			}
		}
	}
}

func TestSealOfTheEmptyTextIsATag(t *testing.T) {
	for seed := range 10 {
		k, n := own(seed)
		got := aead.Seal(k, n, "", "")
		if len(got) != 16 {
			t.Errorf("%x", got)
		}
		opens(t, k, n, "", got, "")
	}
}

// P5.1: Open

func TestOpenOfFewerBytesThanATag(t *testing.T) {
	k, n := own(3)
	for _, size := range []int{0, 1, 40} {
		sealed := aead.Seal(k, n, "extra", some(size, size))
		for short := range 16 {
			refused(t, k, n, "extra", sealed[:short])
			refused(t, k, n, "extra", sealed[len(sealed)-short:])
			refused(t, k, n, "", strings.Repeat("\x00", short))
		}
	}
}

func TestOpenOfATurnedBit(t *testing.T) {
	k, n := own(4)
	for _, size := range sizes() {
		for _, extras := range sizes() {
			extra, text := some(extras+100, extras), some(size+200, size)
			sealed := aead.Seal(k, n, extra, text)
			// both the masked text and the tag
			for i := range 8 * len(sealed) {
				refused(t, k, n, extra, turned(sealed, i))
			}
			for i := range 8 * extras {
				refused(t, k, n, turned(extra, i), sealed)
			}
			for i := range 8 * len(n) {
				refused(t, k, nonce(turned(string(n[:]), i)), extra, sealed)
			}
			for i := range 8 * len(k) {
				refused(t, key(turned(string(k[:]), i)), n, extra, sealed)
			}
			opens(t, k, n, extra, sealed, text)
		}
	}
}

func TestOpenOfOtherLengths(t *testing.T) {
	k, n := own(5)
	for _, size := range sizes() {
		for _, extras := range sizes() {
			extra := some(extras+300, extras)
			sealed := aead.Seal(k, n, extra, some(size+400, size))
			for less := 1; less <= len(sealed); less++ {
				refused(t, k, n, extra, sealed[:len(sealed)-less])
				refused(t, k, n, extra, sealed[less:])
			}
			for less := 1; less <= extras; less++ {
				refused(t, k, n, extra[:extras-less], sealed)
			}
			for more := 1; more <= 17; more++ {
				noughts := strings.Repeat("\x00", more)
				refused(t, k, n, extra+noughts, sealed)
				refused(t, k, n, extra, sealed+noughts)
				refused(t, k, n, extra, noughts+sealed)
				// noughts between the masked text and the tag are in the tag's blocks anyway, but for the length
				refused(t, k, n, extra, sealed[:size]+noughts+sealed[size:])
			}
		}
	}
}

func TestOpenWhereBytesPassOverFromOneToTheOther(t *testing.T) {
	// extra and the masked text, one behind the other, are the same blocks
	k, n := own(6)
	extra := some(1, 32)
	sealed := aead.Seal(k, n, extra, some(2, 32))
	refused(t, k, n, extra[:16], extra[16:]+sealed)
	refused(t, k, n, extra+sealed[:16], sealed[16:])
	refused(t, k, n, "", extra+sealed)
	refused(t, k, n, extra+sealed[:32], sealed[32:])
}

func TestOpenOfWhatNobodySealed(t *testing.T) {
	k, n := own(7)
	for size := range 80 {
		refused(t, k, n, "", some(size, size))
		refused(t, k, n, "extra", strings.Repeat("\x00", size))
		refused(t, k, n, "extra", strings.Repeat("\xff", size))
		refused(t, k, n, "", chacha.Mask(k, 1, n, some(size, size)))
	}
}

func TestOpenOfAnotherOnesTag(t *testing.T) {
	k, n := own(8)
	a, b := aead.Seal(k, n, "extra", some(1, 20)), aead.Seal(k, n, "extra", some(2, 20))
	refused(t, k, n, "extra", a[:20]+b[20:])
	refused(t, k, n, "extra", b[:20]+a[20:])
	opens(t, k, n, "extra", a, some(1, 20))
	opens(t, k, n, "extra", b, some(2, 20))
}

func TestSealAndOpenOfAllBytes(t *testing.T) {
	// bytes that are no runes are texts as well
	for b := range 256 {
		k, n := own(b)
		text := strings.Repeat(string([]byte{byte(b)}), 33)
		got := aead.Seal(k, n, text, text)
		if got != reference(k, n, text, text) {
			t.Error(b)
		}
		opens(t, k, n, text, got, text)
	}
}

func TestOpenKeepsNothing(t *testing.T) {
	// it hangs on the arguments alone: not on what was sealed, or opened, ahead of it
	k, n := own(9)
	sealed := reference(k, n, "e", "never sealed here")
	opens(t, k, n, "e", sealed, "never sealed here")
	refused(t, k, n, "f", sealed)
	other, otherNonce := own(10)
	aead.Seal(other, otherNonce, "e", "between")
	opens(t, k, n, "e", sealed, "never sealed here")
	if aead.Seal(k, n, "e", "never sealed here") != sealed {
		t.Error("another answer")
	}
}

// P5.2

func TestUnlikeTextsAreUnlikeSealed(t *testing.T) {
	k, n := own(11)
	var texts []string
	for b := range 256 {
		texts = append(texts, string([]byte{byte(b)}), string([]byte{byte(b), 0}), string([]byte{0, byte(b), 1}))
	}
	for size := range 130 {
		texts = append(texts, strings.Repeat("\x00", size), strings.Repeat("\xff", size), some(size, size), some(1, size))
		for _, at := range []int{0, 8*size - 1} {
			if size > 0 {
				texts = append(texts, turned(some(size, size), at))
			}
		}
	}
	slices.Sort(texts)
	texts = slices.Compact(texts)
	for _, extra := range []string{"", "extra", strings.Repeat("\x00", 16)} {
		of := map[string]string{}
		for _, text := range texts {
			s := aead.Seal(k, n, extra, text)
			if other, ok := of[s]; ok {
				t.Errorf("%x and %x are sealed alike: %x", text, other, s)
			}
			of[s] = text
		}
	}
}

// number is the number of bytes, the lowest first.
func number(b string) *big.Int {
	l := []byte(b)
	slices.Reverse(l)
	return new(big.Int).SetBytes(l)
}

// oneTag is two masked texts of two blocks each that have one tag: what the first blocks differ by, times r, the second ones make up for.
func oneTag(k api.Key, n api.Nonce) (string, string) {
	r := []byte(chacha.Block(k, 0, n)[:16])
	for i := range r {
		r[i] &= "\xff\xff\xff\x0f\xfc\xff\xff\x0f\xfc\xff\xff\x0f\xfc\xff\xff\x0f"[i]
	}
	modulus := new(big.Int).Sub(new(big.Int).Lsh(big.NewInt(1), 130), big.NewInt(5))
	for seed := 0; ; seed++ {
		first, last, other := some(seed, 16), some(seed+1, 16), some(seed+2, 16)
		d := new(big.Int).Sub(number(first), number(other))
		d.Mul(d, number(string(r))).Add(d, number(last)).Mod(d, modulus)
		if d.BitLen() <= 128 {
			b := make([]byte, 16)
			d.FillBytes(b)
			slices.Reverse(b)
			return first + last, other + string(b)
		}
	}
}

func TestUnlikeTextsOfOneTag(t *testing.T) {
	for seed := range 10 {
		k, n := own(seed)
		a, b := oneTag(k, n)
		one, two := chacha.Mask(k, 1, n, a), chacha.Mask(k, 1, n, b)
		s, z := aead.Seal(k, n, "extra", one), aead.Seal(k, n, "extra", two)
		if a == b || s[32:] != z[32:] {
			t.Fatal("aimed at another tag", seed)
		}
		if s == z {
			t.Error("sealed alike", seed)
		}
		opens(t, k, n, "extra", s, one)
		opens(t, k, n, "extra", z, two)
	}
}

func BenchmarkSeal(b *testing.B) {
	k, n := own(12)
	text := some(12, 4096)
	b.SetBytes(4096)
	for b.Loop() {
		aead.Seal(k, n, "", text)
	}
}
