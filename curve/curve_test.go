package curve_test

import (
	"crypto/ecdh"
	"crypto/sha256"
	"encoding/hex"
	"math/big"
	"slices"
	"testing"

	"billet/api"
	"billet/curve"
)

// hexKey is the key of 64 hexadecimal digits.
func hexKey(t *testing.T, s string) api.Key {
	t.Helper()
	b, err := hex.DecodeString(s)
	if err != nil || len(b) != 32 {
		t.Fatal(s, err)
	}
	return api.Key(b)
}

// some is a key that looks like chance, the same for the same seed.
func some(seed int) api.Key {
	return sha256.Sum256([]byte{byte(seed), byte(seed >> 8)})
}

// filled is a first byte, thirty in the middle, and a last one.
func filled(first, middle, last byte) api.Key {
	var k api.Key
	for i := range k {
		k[i] = middle
	}
	k[0], k[31] = first, last
	return k
}

// number is the number of a key's 32 bytes, the lowest first.
func number(k api.Key) *big.Int {
	slices.Reverse(k[:])
	return new(big.Int).SetBytes(k[:])
}

// key is the 32 bytes of a number below 2^256, the lowest first.
func key(n *big.Int) api.Key {
	var k api.Key
	n.FillBytes(k[:])
	slices.Reverse(k[:])
	return k
}

// turned is k with one bit the other way round.
func turned(k api.Key, bit int) api.Key {
	k[bit/8] ^= 1 << (bit % 8)
	return k
}

// library is what the library's own X25519 answers: noughts, where it tells a fault.
func library(t *testing.T, k, u api.Key) api.Key {
	t.Helper()
	secret, err := ecdh.X25519().NewPrivateKey(k[:])
	if err != nil {
		t.Fatal(err)
	}
	public, err := ecdh.X25519().NewPublicKey(u[:])
	if err != nil {
		t.Fatal(err)
	}
	s, err := secret.ECDH(public)
	if err != nil {
		return api.Key{}
	}
	return api.Key(s)
}

// scalars are noughts, ones, words at their edges, and some more.
func scalars() []api.Key {
	l := []api.Key{{}, {1}, {8}, {9}, {31: 0x40}, {31: 0x80}, filled(0xff, 0xff, 0xff), filled(0xf8, 0xff, 0x7f), filled(0x07, 0, 0x80), filled(0x55, 0xaa, 0x55)}
	for i := range 12 {
		l = append(l, some(i))
	}
	return l
}

// points are numbers about 0, p, 2^255 and 2^256, and some more: on the curve and on its twist.
func points() []api.Key {
	var l []api.Key
	for d := range 24 {
		l = append(l, api.Key{byte(d)}, api.Key{0: byte(d), 31: 0x80}, filled(byte(0xe8+d), 0xff, 0x7f), filled(byte(0xe8+d), 0xff, 0xff))
	}
	for i := range 24 {
		l = append(l, some(1000+i))
	}
	return l
}

// weak are the points of small order, each with the ones that are the same modulo p, and with the highest bit.
func weak(t *testing.T) []api.Key {
	l := []api.Key{
		{},                       // 0
		{1},                      // 1
		filled(0xec, 0xff, 0x7f), // -1
		filled(0xed, 0xff, 0x7f), // p
		filled(0xee, 0xff, 0x7f), // p + 1
		hexKey(t, "e0eb7a7c3b41b8ae1656e3faf19fc46ada098deb9c32b1fd866205165f49b800"),
		hexKey(t, "5f9c95bca3508c24b1d0b1559c83ef5b04445cc4581c8e86d8224eddd09f1157"),
	}
	for _, u := range l[:len(l):len(l)] {
		l = append(l, turned(u, 255))
	}
	return l
}

// P2.1

func TestMulOfTheStandard(t *testing.T) {
	for _, x := range []struct{ k, u, want string }{
		{"a546e36bf0527c9d3b16154b82465edd62144c0ac1fc5a18506a2244ba449ac4", "e6db6867583030db3594c1a424b15f7c726624ec26b3353b10a903a6d0ab1c4c", "c3da55379de9c6908e94ea4df28d084f32eccf03491c71f754b4075577a28552"},
		{"4b66e9d4d1b4673c5ad22691957d6af5c11b6421e0ea01d42ca4169e7918ba0d", "e5210f12786811d3f4b7959d0538ae2c31dbe7106fc03c3efc4cd549c715a493", "95cbde9476e8907d7aade45cb4b873f88b595a68799fa152e6f8f7647aac7957"},
	} {
		if got := curve.Mul(hexKey(t, x.k), hexKey(t, x.u)); got != hexKey(t, x.want) {
			t.Errorf("Mul(%s, %s): %x", x.k, x.u, got)
		}
	}
	k, u := api.Key{9}, api.Key{9}
	for i := range 1000 {
		k, u = curve.Mul(k, u), k
		if i == 0 && k != hexKey(t, "422c8e7a6227d7bca1350b3e2bb7279f7897b87bb6854b783c60e80311ae3079") {
			t.Errorf("once: %x", k)
		}
	}
	if k != hexKey(t, "684cf59ba83309552800ef566f2f4d3c1c3887c49360e3875f2eb94d99532c51") {
		t.Errorf("a thousand times: %x", k)
	}
}

func TestKeysOfTheStandard(t *testing.T) {
	a := hexKey(t, "77076d0a7318a57d3c16c17251b26645df4c2f87ebc0992ab177fba51db92c2a")
	b := hexKey(t, "5dab087e624a8a4b79e17f8b83800ee66f3bb1292618b6fd1c2f8b27ff88e0eb")
	if got := curve.Public(a); got != hexKey(t, "8520f0098930a754748b7ddcb43ef75a0dbf3a0d26381af4eba4a98eaa9b4e6a") {
		t.Errorf("the one's public key: %x", got)
	}
	if got := curve.Public(b); got != hexKey(t, "de9edb7d7b7dc1b4d35b61c2ece435373f8343c85b78674dadfc7e146f882b4f") {
		t.Errorf("the other one's public key: %x", got)
	}
	want := hexKey(t, "4a5d9d5ba4ce2de1728e3bf480350f25e07e21c947d19e3376f09b3c1e161742")
	if got, e := curve.Shared(a, curve.Public(b)); got != want || e != api.OK {
		t.Errorf("what they share: %x, %d", got, e)
	}
}

func TestMulAndSharedAgainstTheLibrary(t *testing.T) {
	for _, k := range scalars() {
		for _, u := range points() {
			want, fault := library(t, k, u), api.OK
			if want == (api.Key{}) {
				fault = api.ErrWeak
			}
			if got := curve.Mul(k, u); got != want {
				t.Errorf("Mul(%x, %x): %x, not %x", k, u, got, want)
			}
			if got, e := curve.Shared(k, u); got != want || e != fault {
				t.Errorf("Shared(%x, %x): %x, %d, not %x, %d", k, u, got, e, want, fault)
			}
		}
	}
}

func TestPublicIsMulOfNine(t *testing.T) {
	for _, k := range scalars() {
		got := curve.Public(k)
		if got != curve.Mul(k, api.Key{9}) || got != library(t, k, api.Key{9}) || got == (api.Key{}) {
			t.Errorf("Public(%x): %x", k, got)
		}
	}
}

func TestBitsOfAScalar(t *testing.T) {
	k := some(77)
	want := curve.Public(k)
	for bit := range 256 {
		isSet := bit <= 2 || bit >= 254
		if same := curve.Public(turned(k, bit)) == want; same != isSet {
			t.Errorf("bit %d: the same: %v", bit, same)
		}
	}
	for _, k := range scalars() {
		want := curve.Mul(k, some(78))
		for _, bit := range []int{0, 1, 2, 254, 255} {
			if got := curve.Mul(turned(k, bit), some(78)); got != want {
				t.Errorf("%x: bit %d counts", k, bit)
			}
		}
	}
}

func TestHighestBitOfAPoint(t *testing.T) {
	for _, u := range points() {
		if got := curve.Mul(some(79), turned(u, 255)); got != curve.Mul(some(79), u) {
			t.Errorf("%x: %x", u, got)
		}
	}
}

func TestPointsFromThePrimeOn(t *testing.T) {
	for d := range 19 {
		want := curve.Mul(some(80), api.Key{byte(d)})
		if got := curve.Mul(some(80), filled(byte(0xed+d), 0xff, 0x7f)); got != want {
			t.Errorf("p + %d: %x, not %x", d, got, want)
		}
		if got := curve.Mul(some(80), filled(byte(0xed+d), 0xff, 0xff)); got != want {
			t.Errorf("p + %d with the highest bit: %x, not %x", d, got, want)
		}
	}
}

func TestWeakPoints(t *testing.T) {
	for _, k := range scalars() {
		for _, u := range weak(t) {
			if got := curve.Mul(k, u); got != (api.Key{}) {
				t.Errorf("Mul(%x, %x): %x", k, u, got)
			}
			if got, e := curve.Shared(k, u); got != (api.Key{}) || e != api.ErrWeak {
				t.Errorf("Shared(%x, %x): %x, %d", k, u, got, e)
			}
		}
	}
}

// undoing is two secrets of which each takes back what the other one does to a point of the base point's order.
func undoing(t *testing.T) (api.Key, api.Key) {
	t.Helper()
	order, _ := new(big.Int).SetString("7237005577332262213973186563042994240857116359379907606001950938285454250989", 10)
	for seed := range 100 {
		k := some(seed)
		k[0] &^= 7
		k[31] = k[31]&0x3f | 0x40
		m := new(big.Int).ModInverse(number(k), order)
		for range 8 {
			if m.BitLen() == 255 && m.TrailingZeroBits() >= 3 {
				return k, key(m)
			}
			m.Add(m, order)
		}
	}
	t.Fatal("none found")
	return api.Key{}, api.Key{}
}

func TestSharedOfOneByteAlone(t *testing.T) {
	// What is shared is weak only where all of its bytes are noughts.
	k, back := undoing(t)
	for at := range 32 {
		found := false
		for b := 1; b < 128 && !found; b++ {
			var want api.Key
			want[at] = byte(b)
			u := curve.Mul(back, want)
			found = curve.Mul(k, u) == want
			if got, e := curve.Shared(k, u); found && (got != want || e != api.OK) {
				t.Errorf("byte %d: %x, %d", at, got, e)
			}
		}
		if !found {
			t.Errorf("byte %d: no point found", at)
		}
	}
}

// P2.2

func TestTwoSecretsMeet(t *testing.T) {
	l := scalars()
	for i, a := range l {
		for _, b := range l[:i+1] {
			want := curve.Mul(a, curve.Public(b))
			if got := curve.Mul(b, curve.Public(a)); got != want || got == (api.Key{}) {
				t.Errorf("%x, %x: %x and %x", a, b, want, got)
			}
			x, e := curve.Shared(a, curve.Public(b))
			y, f := curve.Shared(b, curve.Public(a))
			if x != want || y != want || e != api.OK || f != api.OK {
				t.Errorf("%x, %x: shared are %x, %d and %x, %d", a, b, x, e, y, f)
			}
		}
	}
}

func TestOthersDoNotMeet(t *testing.T) {
	a, b, c := some(1), some(2), some(3)
	if curve.Mul(a, curve.Public(b)) == curve.Mul(c, curve.Public(b)) || curve.Mul(a, curve.Public(b)) == curve.Mul(a, curve.Public(c)) {
		t.Error("a third secret has the same in common")
	}
}
