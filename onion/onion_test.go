package onion_test

import (
	"crypto/ecdh"
	"crypto/sha256"
	"encoding/binary"
	"fmt"
	"math"
	"math/rand/v2"
	"slices"
	"strings"
	"testing"
	"unsafe"

	"billet/aead"
	"billet/api"
	"billet/book"
	"billet/onion"
	"billet/tape"
)

// some is n bytes that look like chance, the same for the same seed.
func some(seed, n int) string {
	var b []byte
	for i := 0; len(b) < n; i++ {
		h := sha256.Sum256(fmt.Append(nil, seed, i))
		b = append(b, h[:]...)
	}
	return string(b[:n])
}

func noughts(n int) string {
	return strings.Repeat("\x00", n)
}

func key(seed int) api.Key {
	return api.Key([]byte(some(seed, 32)))
}

// keyAt is the bytes of a text from there on.
func keyAt(s string, at int) api.Key {
	return api.Key([]byte(s[at : at+32]))
}

func text(k api.Key) string {
	return string(k[:])
}

// turned is the text with one of its bits turned.
func turned(text string, bit int) string {
	b := []byte(text)
	b[bit/8] ^= 1 << (bit % 8)
	return string(b)
}

// request is what the chapter's onions hold.
func request(seed int) string {
	return some(seed, 52)
}

// What the chapter's words come to, by the library's own curve and digests.

func public(secret api.Key) api.Key {
	k, err := ecdh.X25519().NewPrivateKey(secret[:])
	if err != nil {
		panic(err)
	}
	return api.Key(k.PublicKey().Bytes())
}

// common is what a secret and a public key come to; false: noughts.
func common(secret, other api.Key) (api.Key, bool) {
	k, err := ecdh.X25519().NewPrivateKey(secret[:])
	if err != nil {
		panic(err)
	}
	u, err := ecdh.X25519().NewPublicKey(other[:])
	if err != nil {
		panic(err)
	}
	s, err := k.ECDH(u)
	if err != nil {
		return api.Key{}, false
	}
	return api.Key(s), true
}

// layerKey is the digest of the label, s, E and P, each with its length ahead of it.
func layerKey(s, made, server api.Key) api.Key {
	long := "\x20\x00\x00\x00"
	return sha256.Sum256([]byte("\x0c\x00\x00\x00billet layer" + long + text(s) + long + text(made) + long + text(server)))
}

func nonceOf(what byte, round uint64) api.Nonce {
	return api.Nonce(binary.LittleEndian.AppendUint64([]byte{what, 0, 0, 0}, round))
}

func forRequest(round uint64) api.Nonce { return nonceOf(1, round) }
func forReply(round uint64) api.Nonce   { return nonceOf(2, round) }

// layersOf is each layer's public key and its key, of secrets one behind the other.
func layersOf(secrets string, pubs []api.Key) (made, keys []api.Key) {
	for i, pub := range pubs {
		secret := keyAt(secrets, 32*i)
		s, _ := common(secret, pub)
		made = append(made, public(secret))
		keys = append(keys, layerKey(s, public(secret), pub))
	}
	return made, keys
}

// realOnion is inner, wrapped as the real game has it.
func realOnion(made, keys []api.Key, round uint64, inner string) string {
	for i := len(keys) - 1; i >= 0; i-- {
		inner = text(made[i]) + aead.Seal(keys[i], forRequest(round), "", inner)
	}
	return inner
}

// idealOnion is inner, wrapped as the ideal game has it: fresh keys and noughts, where a layer has a fresh key.
func idealOnion(made, keys []api.Key, fresh map[int]api.Key, round uint64, inner string) string {
	for i := len(keys) - 1; i >= 0; i-- {
		k, ok := fresh[i]
		if ok {
			inner = noughts(len(inner))
		} else {
			k = keys[i]
		}
		inner = text(made[i]) + aead.Seal(k, forRequest(round), "", inner)
	}
	return inner
}

// The servers.

func secrets() []api.Key { return []api.Key{key(101), key(102), key(103)} }

func pubs() []api.Key {
	var l []api.Key
	for _, s := range secrets() {
		l = append(l, public(s))
	}
	return l
}

var (
	sizes   = []int{0, 196, 148, 100}
	replies = []int{0, 84, 68, 52}
	rounds  = []uint64{0, 1, 5, 256, 1 << 32, math.MaxUint64}
	none    = []bool{false, false, false}
	all     = []bool{true, true, true}
)

// whoIsHonest is every way in which three servers can be honest or not.
func whoIsHonest() [][]bool {
	var l [][]bool
	for i := range 8 {
		l = append(l, []bool{i&1 != 0, i&2 != 0, i&4 != 0})
	}
	return l
}

// weak are public keys that have noughts in common with whatever secret.
func weak() []api.Key {
	filled := func(first, last byte) api.Key {
		k := api.Key([]byte(strings.Repeat("\xff", 32)))
		k[0], k[31] = first, last
		return k
	}
	return []api.Key{{}, {1}, {31: 0x80}, {0: 1, 31: 0x80}, filled(0xec, 0x7f), filled(0xed, 0x7f), filled(0xee, 0xff),
		keyAt("\xe0\xeb\x7a\x7c\x3b\x41\xb8\xae\x16\x56\xe3\xfa\xf1\x9f\xc4\x6a\xda\x09\x8d\xeb\x9c\x32\xb1\xfd\x86\x62\x05\x16\x5f\x49\xb8\x00", 0)}
}

// bookOf is a new book of that game, and its tape.
func bookOf(ideal bool, seed int) (*book.Book, *tape.Tape) {
	p := tape.New(some(seed, 4096))
	return book.New(ideal, p), p
}

// wrap is a Wrap that has to be fine.
func wrap(t *testing.T, b *book.Book, p *tape.Tape, round uint64, from int, honest []bool, inner string) onion.Wrapped {
	t.Helper()
	w, e := onion.Wrap(b, p, round, from, pubs(), honest, inner)
	if e != api.OK {
		t.Fatalf("from %d: error %d", from, e)
	}
	return w
}

// plainWrap is a Wrap from 1 without a book.
func plainWrap(t *testing.T, round uint64) onion.Wrapped {
	t.Helper()
	return wrap(t, nil, tape.New(some(1, 96)), round, 1, none, request(1))
}

// peels holds that Peel tells that, and that key.
func peels(t *testing.T, b *book.Book, round uint64, at int, secret api.Key, x, inside string, k api.Key) {
	t.Helper()
	if got, used, ok := onion.Peel(b, round, at, secret, x); !ok || got != inside || used != k {
		t.Fatalf("Peel at %d: %.40x, %x, %v; not %.40x, %x", at, got, used, ok, inside, k)
	}
}

// refused holds that Peel tells false, and nothing beside it.
func refused(t *testing.T, b *book.Book, round uint64, at int, secret api.Key, x string) {
	t.Helper()
	if got, k, ok := onion.Peel(b, round, at, secret, x); ok || got != "" || k != (api.Key{}) {
		t.Fatalf("Peel at %d of %d bytes: %.40x, %x, %v", at, len(x), got, k, ok)
	}
}

// unwraps holds that Unwrap tells that.
func unwraps(t *testing.T, b *book.Book, round uint64, keys []api.Key, reply, inside string) {
	t.Helper()
	if got, ok := onion.Unwrap(b, round, keys, reply); !ok || got != inside {
		t.Fatalf("Unwrap by %d keys: %.40x, %v; not %.40x", len(keys), got, ok, inside)
	}
}

// shut holds that Unwrap tells false, and nothing beside it.
func shut(t *testing.T, b *book.Book, round uint64, keys []api.Key, reply string) {
	t.Helper()
	if got, ok := onion.Unwrap(b, round, keys, reply); ok || got != "" {
		t.Fatalf("Unwrap by %d keys of %d bytes: %.40x, %v", len(keys), len(reply), got, ok)
	}
}

// closed is a reply within the layers of all keys, the first one outermost.
func closed(b *book.Book, round uint64, keys []api.Key, reply string) string {
	for _, k := range slices.Backward(keys) {
		reply = onion.Close(b, round, k, reply)
	}
	return reply
}

// The chapter's examples

func TestExampleSizes(t *testing.T) {
	for _, x := range []struct{ from, bytes, keys int }{{1, 196, 3}, {3, 100, 1}} {
		w := wrap(t, nil, tape.New("t"), 1, x.from, none, request(1))
		if len(w.Onion) != x.bytes || len(w.Keys) != x.keys {
			t.Error(x.from, len(w.Onion), len(w.Keys))
		}
	}
}

func TestExampleOfATurnedByte(t *testing.T) {
	w := plainWrap(t, 1)
	made, keys := layersOf(some(1, 96), pubs())
	peels(t, nil, 1, 1, secrets()[0], w.Onion, realOnion(made[1:], keys[1:], 1, request(1)), keys[0])
	for at := range len(w.Onion) {
		b := []byte(w.Onion)
		b[at] = ^b[at]
		refused(t, nil, 1, 1, secrets()[0], string(b))
	}
}

// P15.1: what is wrapped

func TestWrapWithoutABook(t *testing.T) {
	for _, round := range rounds {
		for from := 1; from <= 3; from++ {
			for i, honest := range whoIsHonest() {
				p := tape.New(some(i, 200))
				w := wrap(t, nil, p, round, from, honest, request(i))
				made, keys := layersOf(some(i, 200), pubs()[from-1:])
				if w.Onion != realOnion(made, keys, round, request(i)) || len(w.Onion) != sizes[from] {
					t.Fatalf("from %d, round %d: %d bytes", from, round, len(w.Onion))
				}
				if !slices.Equal(w.Keys, keys) || len(w.Keys) != 4-from {
					t.Fatalf("from %d: %d keys", from, len(w.Keys))
				}
				if p.Used() != 32*(4-from) {
					t.Fatal("taken", p.Used())
				}
			}
		}
	}
}

func TestWrapInTheRealGame(t *testing.T) {
	for from := 1; from <= 3; from++ {
		for i, honest := range whoIsHonest() {
			b, bp := bookOf(false, 50)
			p := tape.New(some(i, 96))
			w := wrap(t, b, p, 7, from, honest, request(i))
			made, keys := layersOf(some(i, 96), pubs()[from-1:])
			if w.Onion != realOnion(made, keys, 7, request(i)) || !slices.Equal(w.Keys, keys) || p.Used() != 32*len(keys) {
				t.Fatalf("from %d, honest %v", from, honest)
			}
			for j, k := range keys {
				if b.Shared(k) != honest[from-1+j] {
					t.Errorf("from %d, honest %v: key %d is shared: %v", from, honest, j, b.Shared(k))
				}
			}
			if bp.Used() != 0 || b.Forged() != 0 {
				t.Error("taken or forged", bp.Used(), b.Forged())
			}
		}
	}
}

func TestWrapInTheIdealGame(t *testing.T) {
	for from := 1; from <= 3; from++ {
		for i, honest := range whoIsHonest() {
			b, bp := bookOf(true, 51)
			p := tape.New(some(i, 96))
			w := wrap(t, b, p, 8, from, honest, request(i))
			made, keys := layersOf(some(i, 96), pubs()[from-1:])
			fresh := map[int]api.Key{} // taken in the row of the servers, of those that are honest alone
			for j, k := range keys {
				if honest[from-1+j] {
					fresh[j] = keyAt(some(51, 4096), 32*len(fresh))
				}
				if b.Shared(k) != honest[from-1+j] || honest[from-1+j] && b.Key(k) != fresh[j] {
					t.Errorf("from %d, honest %v: key %d is shared: %v", from, honest, j, b.Shared(k))
				}
			}
			if bp.Used() != 32*len(fresh) {
				t.Errorf("from %d, honest %v: taken for the book: %d", from, honest, bp.Used())
			}
			if w.Onion != idealOnion(made, keys, fresh, 8, request(i)) || len(w.Onion) != sizes[from] {
				t.Errorf("from %d, honest %v: %d bytes", from, honest, len(w.Onion))
			}
			if !slices.Equal(w.Keys, keys) || p.Used() != 32*len(keys) || b.Forged() != 0 {
				t.Errorf("from %d, honest %v: %d keys", from, honest, len(w.Keys))
			}
		}
	}
}

func TestTheSecretsAreTakenAheadOfTheSharing(t *testing.T) {
	// one tape for both shows the row
	s := some(52, 400)
	p := tape.New(s)
	b := book.New(true, p)
	w := wrap(t, b, p, 1, 1, all, request(1))
	made, keys := layersOf(s, pubs())
	fresh := map[int]api.Key{0: keyAt(s, 96), 1: keyAt(s, 128), 2: keyAt(s, 160)}
	if !slices.Equal(w.Keys, keys) || w.Onion != idealOnion(made, keys, fresh, 1, request(1)) || p.Used() != 192 {
		t.Error("another row", p.Used())
	}
}

func TestWrapGoesOnBehindWhatWasTaken(t *testing.T) {
	s := some(53, 400)
	p := tape.New(s)
	p.Take(5)
	for i, from := range []int{1, 3, 2, 1} {
		at := p.Used()
		w := wrap(t, nil, p, 3, from, none, request(i))
		made, keys := layersOf(s[at:]+noughts(96), pubs()[from-1:])
		if w.Onion != realOnion(made, keys, 3, request(i)) || p.Used() != at+32*(4-from) {
			t.Error(i, from, p.Used())
		}
	}
}

func TestWrapOfATapeThatEnds(t *testing.T) {
	for _, n := range []int{0, 1, 31, 32, 40, 64, 95} {
		s := some(n, n)
		p := tape.New(s)
		w := wrap(t, nil, p, 3, 1, none, request(1))
		made, keys := layersOf(s+noughts(96), pubs())
		if w.Onion != realOnion(made, keys, 3, request(1)) || !slices.Equal(w.Keys, keys) || p.Used() != 96 {
			t.Error(n, p.Used())
		}
	}
}

func TestWrapOfAnyInner(t *testing.T) {
	for _, inner := range []string{noughts(52), strings.Repeat("\xff", 52), strings.Repeat("i", 52)} {
		for _, ideal := range []bool{false, true} {
			b, _ := bookOf(ideal, 54)
			w := wrap(t, b, tape.New(some(2, 32)), 3, 3, all, inner)
			peels(t, b, 3, 3, secrets()[2], w.Onion, inner, w.Keys[0])
		}
	}
}

func TestServersOfOneKey(t *testing.T) {
	// a tape of noughts makes their layers' keys alike, too: it is shared once, and each layer opens
	for _, ideal := range []bool{false, true} {
		b, bp := bookOf(ideal, 55)
		one := []api.Key{pubs()[0], pubs()[0], pubs()[0]}
		w, e := onion.Wrap(b, tape.New(""), 4, 1, one, all, request(4))
		if e != api.OK || w.Keys[0] != w.Keys[1] || w.Keys[1] != w.Keys[2] {
			t.Fatal(e)
		}
		if ideal && bp.Used() != 32 {
			t.Error("taken", bp.Used())
		}
		x := w.Onion
		for at := 1; at <= 3; at++ {
			inside, k, ok := onion.Peel(b, 4, at, secrets()[0], x)
			if !ok || k != w.Keys[0] {
				t.Fatal(at, ok)
			}
			x = inside
		}
		if x != request(4) || b.Forged() != 0 {
			t.Error("another request", b.Forged())
		}
	}
}

func TestAServersKeyCountsAsItsBytesAre(t *testing.T) {
	// the curve takes no notice of the highest bit; the layer's key does
	l := pubs()
	l[1][31] ^= 0x80
	w, e := onion.Wrap(nil, tape.New(some(5, 96)), 4, 1, l, none, request(5))
	made, keys := layersOf(some(5, 96), l)
	_, others := layersOf(some(5, 96), pubs())
	if e != api.OK || !slices.Equal(w.Keys, keys) || w.Onion != realOnion(made, keys, 4, request(5)) || w.Keys[1] == others[1] {
		t.Fatal(e)
	}
	inside, _, ok := onion.Peel(nil, 4, 1, secrets()[0], w.Onion)
	if !ok {
		t.Fatal("did not open")
	}
	refused(t, nil, 4, 2, secrets()[1], inside)
}

// P15.1: errors

// failing is a Wrap that has to fail: of a book it may change nothing, and of the tape it takes so much.
func failing(t *testing.T, p *tape.Tape, from int, pubs []api.Key, honest []bool, inner string, e api.Errno, taken int) {
	t.Helper()
	for _, ideal := range []bool{false, true} {
		b, bp := bookOf(ideal, 56)
		at := p.Used()
		w, got := onion.Wrap(b, p, 5, from, pubs, honest, inner)
		if got != e || w.Onion != "" || len(w.Keys) != 0 {
			t.Errorf("from %d: error %d, not %d; %d bytes, %d keys", from, got, e, len(w.Onion), len(w.Keys))
		}
		if p.Used() != at+taken || bp.Used() != 0 || b.Forged() != 0 {
			t.Errorf("from %d: taken %d, not %d; for the book %d", from, p.Used()-at, taken, bp.Used())
		}
	}
}

func TestWrapWithoutATape(t *testing.T) {
	for from := 1; from <= 3; from++ {
		failing(t, nil, from, pubs(), none, request(1), api.ErrArg, 0)
		failing(t, nil, from, pubs(), none, "", api.ErrArg, 0)
	}
}

func TestWrapFromNoServer(t *testing.T) {
	for _, from := range []int{0, 4, 5, -1, -2, -3, math.MinInt, math.MaxInt, math.MinInt32, math.MaxInt32} {
		failing(t, tape.New("t"), from, pubs(), all, request(1), api.ErrArg, 0)
		failing(t, tape.New("t"), from, pubs(), all, "", api.ErrArg, 0)
		failing(t, tape.New("t"), from, nil, nil, "", api.ErrArg, 0)
	}
}

func TestWrapOfTooFewOrTooMany(t *testing.T) {
	keys, bools := append(pubs(), key(1), key(2), key(3)), []bool{true, true, true, true, true, true}
	for from := 1; from <= 3; from++ {
		for n := range 7 {
			for m := range 7 {
				if n != 3 || m != 3 {
					failing(t, tape.New("t"), from, keys[:n], bools[:m], request(1), api.ErrArg, 0)
				}
			}
		}
		failing(t, tape.New("t"), from, nil, all, request(1), api.ErrArg, 0)
		failing(t, tape.New("t"), from, pubs(), nil, request(1), api.ErrArg, 0)
		failing(t, tape.New("t"), from, nil, nil, request(1), api.ErrArg, 0)
		failing(t, tape.New("t"), from, make([]api.Key, 2), all, "", api.ErrArg, 0) // ahead of ErrForm and ErrWeak
		failing(t, tape.New("t"), from, make([]api.Key, 3), none[:2], "", api.ErrArg, 0)
	}
}

func TestWrapOfAnInnerOfAnotherSize(t *testing.T) {
	for from := 1; from <= 3; from++ {
		for n := range 260 {
			if n != 52 {
				failing(t, tape.New("t"), from, pubs(), all, some(1, n), api.ErrForm, 0)
			}
		}
		failing(t, tape.New("t"), from, make([]api.Key, 3), all, some(1, 51), api.ErrForm, 0) // ahead of ErrWeak
	}
}

func TestWrapForAWeakKey(t *testing.T) {
	for from := 1; from <= 3; from++ {
		for server := 1; server <= 3; server++ {
			for i, k := range weak() {
				l := pubs()
				l[server-1] = k
				if server >= from {
					failing(t, tape.New(some(i, 200)), from, l, all, request(1), api.ErrWeak, 32*(4-from))
					continue
				}
				// of a server that it does not come to, nothing counts
				p := tape.New(some(i, 200))
				w, e := onion.Wrap(nil, p, 5, from, l, all, request(1))
				if want := wrap(t, nil, tape.New(some(i, 200)), 5, from, all, request(1)); e != api.OK || w.Onion != want.Onion || p.Used() != 32*(4-from) {
					t.Errorf("from %d, weak %d: error %d", from, server, e)
				}
			}
		}
	}
	for from := 1; from <= 3; from++ {
		failing(t, tape.New(some(9, 200)), from, make([]api.Key, 3), all, request(1), api.ErrWeak, 32*(4-from))
		failing(t, tape.New(""), from, make([]api.Key, 3), none, request(1), api.ErrWeak, 32*(4-from))
	}
}

func TestAWeakKeySharesNothing(t *testing.T) {
	for _, ideal := range []bool{false, true} {
		for server := range 3 {
			b, bp := bookOf(ideal, 57)
			l := pubs()
			l[server] = api.Key{1}
			if _, e := onion.Wrap(b, tape.New(some(6, 96)), 5, 1, l, all, request(1)); e != api.ErrWeak {
				t.Fatal(e)
			}
			_, keys := layersOf(some(6, 96), l)
			for i, k := range keys {
				if b.Shared(k) || bp.Used() != 0 {
					t.Error("shared", server, i)
				}
			}
			// the next one is as if there had been none
			w := wrap(t, b, tape.New(some(6, 96)), 5, 1, all, request(1))
			made, keys := layersOf(some(6, 96), pubs())
			fresh := map[int]api.Key{0: keyAt(some(57, 96), 0), 1: keyAt(some(57, 96), 32), 2: keyAt(some(57, 96), 64)}
			if ideal && w.Onion != idealOnion(made, keys, fresh, 5, request(1)) {
				t.Error("another onion")
			}
		}
	}
}

// P15.2

func TestPeelOneByOne(t *testing.T) {
	for from := 1; from <= 3; from++ {
		for i, honest := range whoIsHonest() {
			real, _ := bookOf(false, 58)
			ideal, _ := bookOf(true, 58)
			for _, b := range []*book.Book{nil, real, ideal} {
				round := rounds[i%len(rounds)]
				w := wrap(t, b, tape.New(some(i, 96)), round, from, honest, request(i))
				for range 2 { // peeling takes nothing away
					x := w.Onion
					for at := from; at <= 3; at++ {
						if len(x) != sizes[at] {
							t.Fatal(from, at, len(x))
						}
						inside, k, ok := onion.Peel(b, round, at, secrets()[at-1], x)
						if !ok || k != w.Keys[at-from] {
							t.Fatalf("from %d, at %d, honest %v: %v", from, at, honest, ok)
						}
						x = inside
					}
					if x != request(i) || b.Forged() != 0 {
						t.Fatalf("from %d, honest %v: %x, forged %d", from, honest, x, b.Forged())
					}
				}
			}
		}
	}
}

func TestPeelOfWhatIsMadeByHand(t *testing.T) {
	for at := 1; at <= 3; at++ {
		for i, round := range rounds {
			inside := some(i, sizes[at]-48)
			made, keys := layersOf(some(i, 32), pubs()[at-1:at])
			x := realOnion(made, keys, round, inside)
			peels(t, nil, round, at, secrets()[at-1], x, inside, keys[0])
			// where the key is shared, nobody sealed it here
			b, _ := bookOf(false, 59)
			peels(t, b, round, at, secrets()[at-1], x, inside, keys[0])
			if b.Forged() != 0 {
				t.Error("forged under a key that is not shared")
			}
			b.Share(keys[0])
			peels(t, b, round, at, secrets()[at-1], x, inside, keys[0])
			if b.Forged() != 1 {
				t.Error("forged", b.Forged())
			}
			b, _ = bookOf(true, 59)
			b.Share(keys[0])
			refused(t, b, round, at, secrets()[at-1], x)
			refused(t, b, round, at, secrets()[at-1], text(made[0])+aead.Seal(b.Key(keys[0]), forRequest(round), "", noughts(len(inside))))
			if b.Forged() != 0 {
				t.Error("forged", b.Forged())
			}
			// and without the book's game the ideal one's does not open
			x = text(made[0]) + b.Seal(keys[0], forRequest(round), inside)
			peels(t, b, round, at, secrets()[at-1], x, inside, keys[0])
			refused(t, nil, round, at, secrets()[at-1], x)
		}
	}
}

func TestPeelAtNoServer(t *testing.T) {
	made, keys := layersOf(some(1, 32), pubs()[:1])
	l := []string{"", noughts(32), noughts(48), noughts(52), plainWrap(t, 5).Onion, realOnion(made, keys, 5, ""), realOnion(made, keys, 5, request(1))}
	for _, at := range []int{0, 4, 5, -1, -2, -3, math.MinInt, math.MaxInt} {
		for _, x := range l {
			refused(t, nil, 5, at, secrets()[0], x)
		}
	}
}

func TestPeelOfAnotherSize(t *testing.T) {
	// each one would open, were its size no matter
	for at := 1; at <= 3; at++ {
		made, keys := layersOf(some(at, 32), pubs()[at-1:at])
		for n := range 260 {
			x := realOnion(made, keys, 5, some(n, n))
			if len(x) != n+48 {
				t.Fatal("made wrongly")
			}
			if len(x) == sizes[at] {
				peels(t, nil, 5, at, secrets()[at-1], x, some(n, n), keys[0])
			} else {
				refused(t, nil, 5, at, secrets()[at-1], x)
			}
		}
		for n := range 48 {
			refused(t, nil, 5, at, secrets()[at-1], some(n, n))
		}
		refused(t, nil, 5, at, secrets()[at-1], "")
		refused(t, nil, 5, at, secrets()[at-1], some(1, 100000))
	}
}

func TestPeelOfAPieceOfAnOnion(t *testing.T) {
	x := plainWrap(t, 5).Onion
	for n := range len(x) {
		refused(t, nil, 5, 1, secrets()[0], x[:n])
		refused(t, nil, 5, 1, secrets()[0], x[len(x)-n:])
	}
	for _, more := range []string{"\x00", "x", x} {
		refused(t, nil, 5, 1, secrets()[0], x+more)
		refused(t, nil, 5, 1, secrets()[0], more+x)
	}
}

func TestPeelOfATurnedBit(t *testing.T) {
	for _, ideal := range []bool{false, true} {
		for at := 1; at <= 3; at++ {
			b, _ := bookOf(ideal, 60)
			w := wrap(t, b, tape.New(some(at, 96)), 5, at, all, request(at))
			for bit := range 8 * len(w.Onion) {
				if bit < 256 || bit%8 == bit/8%8 { // each of the key's, and one of each byte of the rest
					refused(t, b, 5, at, secrets()[at-1], turned(w.Onion, bit))
				}
			}
			if b.Forged() != 0 {
				t.Error("forged", b.Forged())
			}
		}
	}
}

func TestPeelByAnotherSecret(t *testing.T) {
	for _, ideal := range []bool{false, true} {
		for at := 1; at <= 3; at++ {
			b, _ := bookOf(ideal, 61)
			w := wrap(t, b, tape.New(some(at, 96)), 5, at, all, request(at))
			for i, s := range append(secrets(), api.Key{}, key(7)) {
				if i != at-1 {
					refused(t, b, 5, at, s, w.Onion)
				}
			}
			for bit := range 256 {
				s := keyAt(turned(text(secrets()[at-1]), bit), 0)
				if bit <= 2 || bit >= 254 { // of these the curve takes no notice: it is the same secret
					if _, k, ok := onion.Peel(b, 5, at, s, w.Onion); !ok || k != w.Keys[0] {
						t.Error("bit", bit, ok)
					}
				} else if bit%16 == 3 {
					refused(t, b, 5, at, s, w.Onion)
				}
			}
		}
	}
}

func TestPeelInAnotherRound(t *testing.T) {
	for _, ideal := range []bool{false, true} {
		for at := 1; at <= 3; at++ {
			for _, round := range rounds {
				b, _ := bookOf(ideal, 62)
				w := wrap(t, b, tape.New(some(at, 96)), round, at, all, request(at))
				for _, other := range rounds {
					if _, _, ok := onion.Peel(b, other, at, secrets()[at-1], w.Onion); ok != (round == other) {
						t.Errorf("at %d, round %d in round %d: %v", at, round, other, ok)
					}
				}
				for bit := range 64 {
					refused(t, b, round^1<<bit, at, secrets()[at-1], w.Onion)
				}
			}
		}
	}
}

func TestPeelAtAnotherServersPlace(t *testing.T) {
	for from := 1; from <= 3; from++ {
		w := wrap(t, nil, tape.New(some(from, 96)), 5, from, none, request(from))
		for at := -1; at <= 5; at++ {
			for _, s := range secrets() {
				if _, _, ok := onion.Peel(nil, 5, at, s, w.Onion); ok != (at == from && s == secrets()[from-1]) {
					t.Errorf("from %d, at %d: %v", from, at, ok)
				}
			}
		}
		// what opened is the next server's, not the same one's
		inside, _, ok := onion.Peel(nil, 5, from, secrets()[from-1], w.Onion)
		if !ok {
			t.Fatal(from)
		}
		for at := 1; at <= 3; at++ {
			if at != from+1 {
				refused(t, nil, 5, at, secrets()[at-1], inside)
			}
		}
	}
}

func TestPeelOfAWeakKey(t *testing.T) {
	// a box that would open by what noughts make, which everybody knows
	for at := 1; at <= 3; at++ {
		for i, made := range weak() {
			k := layerKey(api.Key{}, made, pubs()[at-1])
			inside := some(i, sizes[at]-48)
			x := text(made) + aead.Seal(k, forRequest(5), "", inside)
			refused(t, nil, 5, at, secrets()[at-1], x)
			for _, ideal := range []bool{false, true} {
				b, _ := bookOf(ideal, 63)
				b.Share(k)
				refused(t, b, 5, at, secrets()[at-1], x)
				refused(t, b, 5, at, secrets()[at-1], text(made)+b.Seal(k, forRequest(5), inside))
				if b.Forged() != 0 {
					t.Error("forged", b.Forged())
				}
			}
		}
	}
}

func TestPeelOfAReply(t *testing.T) {
	// what was sealed under the key as a reply is no request
	for _, ideal := range []bool{false, true} {
		b, _ := bookOf(ideal, 64)
		w := wrap(t, b, tape.New(some(1, 96)), 5, 1, all, request(1))
		reply := w.Onion[:32] + onion.Close(b, 5, w.Keys[0], some(1, sizes[1]-48))
		refused(t, b, 5, 1, secrets()[0], reply)
	}
}

// P15.3

func TestCloseIsASeal(t *testing.T) {
	for i, round := range rounds {
		for _, n := range []int{0, 1, 15, 16, 36, 52, 68, 84, 1000} {
			reply := some(n, n)
			want := aead.Seal(key(i), forReply(round), "", reply)
			if onion.Close(nil, round, key(i), reply) != want {
				t.Fatal("without a book", round, n)
			}
			b, _ := bookOf(false, 65)
			if onion.Close(b, round, key(i), reply) != want {
				t.Fatal("not shared", round, n)
			}
			unwraps(t, b, round, []api.Key{key(i)}, want, reply)
			b.Share(key(i))
			unwraps(t, b, round, []api.Key{key(i)}, want, reply)
			if b.Forged() != 1 {
				t.Error("noted though it was not shared")
			}
			if onion.Close(b, round, key(i), reply) != want {
				t.Fatal("shared", round, n)
			}
			unwraps(t, b, round, []api.Key{key(i)}, want, reply)
			if b.Forged() != 1 {
				t.Error("not noted")
			}
			b, _ = bookOf(true, 65)
			if onion.Close(b, round, key(i), reply) != want {
				t.Fatal("ideal, not shared", round, n)
			}
			b.Share(key(i))
			x := onion.Close(b, round, key(i), reply)
			if x != aead.Seal(b.Key(key(i)), forReply(round), "", noughts(n)) {
				t.Fatal("ideal, shared", round, n)
			}
			unwraps(t, b, round, []api.Key{key(i)}, x, reply)
			shut(t, b, round, []api.Key{key(i)}, want)
			if b.Forged() != 0 {
				t.Error("forged", b.Forged())
			}
		}
	}
}

func TestRepliesGoBack(t *testing.T) {
	for from := 1; from <= 3; from++ {
		for i, honest := range whoIsHonest() {
			real, _ := bookOf(false, 66)
			ideal, _ := bookOf(true, 66)
			for _, b := range []*book.Book{nil, real, ideal} {
				w := wrap(t, b, tape.New(some(i, 96)), 9, from, honest, request(i))
				reply := some(i, 36)
				x := reply
				for at := 3; at >= from; at-- {
					x = onion.Close(b, 9, w.Keys[at-from], x)
					if len(x) != replies[at] {
						t.Fatal(from, at, len(x))
					}
				}
				unwraps(t, b, 9, w.Keys, x, reply)
				unwraps(t, b, 9, w.Keys, x, reply)
				if b.Forged() != 0 {
					t.Error("forged", b.Forged())
				}
			}
		}
	}
}

func TestUnwrapWithoutKeys(t *testing.T) {
	b, _ := bookOf(true, 67)
	for _, reply := range []string{"", "as it is", noughts(16), some(1, 84)} {
		for _, keys := range [][]api.Key{nil, {}} {
			unwraps(t, nil, 5, keys, reply, reply)
			unwraps(t, b, 5, keys, reply, reply)
		}
	}
}

func TestUnwrapByAnyNumberOfKeys(t *testing.T) {
	for n := range 8 {
		for _, ideal := range []bool{false, true} {
			b, _ := bookOf(ideal, 68)
			var keys []api.Key
			for i := range n {
				keys = append(keys, key(i))
				if i%2 == 0 {
					b.Share(key(i))
				}
			}
			for _, reply := range []string{"", "reply", some(n, 36)} {
				x := closed(b, 5, keys, reply)
				unwraps(t, b, 5, keys, x, reply)
				if b.Forged() != 0 {
					t.Error("forged", b.Forged())
				}
				shut(t, b, 5, append(slices.Clone(keys), key(n)), x)
				if n > 0 {
					unwraps(t, b, 5, keys[:n-1], x, onion.Close(b, 5, keys[n-1], reply))
				}
			}
		}
	}
}

func TestUnwrapOfATurnedBit(t *testing.T) {
	for _, n := range []int{1, 3} {
		for _, ideal := range []bool{false, true} {
			b, _ := bookOf(ideal, 69)
			keys := []api.Key{key(1), key(2), key(3)}[:n]
			for _, k := range keys {
				b.Share(k)
			}
			x := closed(b, 5, keys, some(1, 36))
			for bit := range 8 * len(x) {
				shut(t, b, 5, keys, turned(x, bit))
				shut(t, nil, 5, keys, turned(x, bit))
			}
			for i := range len(x) {
				shut(t, b, 5, keys, x[:i])
				shut(t, b, 5, keys, x[i+1:])
			}
			shut(t, b, 5, keys, "")
			shut(t, b, 5, keys, x+"x")
			shut(t, b, 5, keys, noughts(len(x)))
			if b.Forged() != 0 {
				t.Error("forged", b.Forged())
			}
			unwraps(t, b, 5, keys, x, some(1, 36))
		}
	}
}

func TestUnwrapOfATurnedBitFurtherIn(t *testing.T) {
	// the layers about it open; what was met on the way stays counted
	keys := []api.Key{key(1), key(2), key(3)}
	for depth := range 3 {
		b, _ := bookOf(false, 70)
		for _, k := range keys {
			b.Share(k)
		}
		x := turned(closed(nil, 5, keys[depth:], some(1, 36)), 77)
		shut(t, b, 5, keys, closed(nil, 5, keys[:depth], x))
		if b.Forged() != depth {
			t.Error(depth, b.Forged())
		}
		shut(t, nil, 5, keys, closed(nil, 5, keys[:depth], x))
	}
}

func TestUnwrapInAnotherRow(t *testing.T) {
	for _, ideal := range []bool{false, true} {
		b, _ := bookOf(ideal, 71)
		w := wrap(t, b, tape.New(some(1, 96)), 5, 1, all, request(1))
		x := closed(b, 5, w.Keys, some(1, 36))
		for _, row := range [][]int{{0, 2, 1}, {1, 0, 2}, {1, 2, 0}, {2, 0, 1}, {2, 1, 0}, {0, 0, 0}, {0, 1, 1}, {1, 2}, {2}, {0, 2}} {
			var keys []api.Key
			for _, i := range row {
				keys = append(keys, w.Keys[i])
			}
			shut(t, b, 5, keys, x)
		}
		for i := range 4 { // fewer of them, from the first one on, leave layers
			unwraps(t, b, 5, w.Keys[:i], x, closed(b, 5, w.Keys[i:], some(1, 36)))
		}
		if b.Forged() != 0 {
			t.Error("forged", b.Forged())
		}
	}
}

func TestUnwrapInAnotherRound(t *testing.T) {
	keys := []api.Key{key(1), key(2)}
	for _, ideal := range []bool{false, true} {
		for _, round := range rounds {
			b, _ := bookOf(ideal, 72)
			b.Share(key(1))
			x := closed(b, round, keys, "reply")
			for bit := range 64 {
				shut(t, b, round^1<<bit, keys, x)
			}
			unwraps(t, b, round, keys, x, "reply")
			// of one round within another one's
			shut(t, b, round, keys, onion.Close(b, round, key(1), onion.Close(b, round+1, key(2), "reply")))
		}
	}
}

func TestUnwrapByAnotherKey(t *testing.T) {
	x := onion.Close(nil, 5, key(1), "reply")
	for bit := range 256 {
		shut(t, nil, 5, []api.Key{keyAt(turned(some(1, 32), bit), 0)}, x)
	}
	shut(t, nil, 5, []api.Key{{}}, x)
}

func TestUnwrapOfARequest(t *testing.T) {
	for _, ideal := range []bool{false, true} {
		b, _ := bookOf(ideal, 73)
		w := wrap(t, b, tape.New(some(1, 96)), 5, 3, all, request(1))
		shut(t, b, 5, w.Keys, w.Onion[32:])
		shut(t, b, 5, w.Keys, w.Onion)
	}
}

// Two games

func TestWhatIsSeenInTheIdealGame(t *testing.T) {
	// with one honest server on the way, what it is given, and what it gives back, does not hang on what is said
	for from := 1; from <= 3; from++ {
		for server := from; server <= 3; server++ {
			honest := []bool{server == 1, server == 2, server == 3}
			var seen []string
			for i := range 3 {
				b, _ := bookOf(true, 74)
				w := wrap(t, b, tape.New(some(1, 96)), 5, from, honest, request(i))
				seen = append(seen, w.Onion+closed(b, 5, w.Keys, some(i, 36)))
			}
			if seen[0] != seen[1] || seen[1] != seen[2] {
				t.Errorf("from %d, honest %d: it is to be seen", from, server)
			}
		}
	}
	// without one it does
	b, _ := bookOf(true, 74)
	one, two := wrap(t, b, tape.New(some(1, 96)), 5, 1, none, request(1)), wrap(t, b, tape.New(some(1, 96)), 5, 1, none, request(2))
	if one.Onion == two.Onion {
		t.Error("alike")
	}
}

func TestCoursesOfOnions(t *testing.T) {
	for course := range 60 {
		r := rand.New(rand.NewPCG(2, uint64(course)))
		b, _ := bookOf(course%2 == 1, course)
		p := tape.New(some(course, 600))
		var wrapped []onion.Wrapped
		var froms []int
		for i := range 6 {
			froms = append(froms, 1+r.IntN(3))
			honest := whoIsHonest()[r.IntN(8)]
			wrapped = append(wrapped, wrap(t, b, p, uint64(i%2), froms[i], honest, request(i)))
		}
		for _, i := range r.Perm(6) {
			w, from := wrapped[i], froms[i]
			x := w.Onion
			var keys []api.Key
			for at := from; at <= 3; at++ {
				inside, k, ok := onion.Peel(b, uint64(i%2), at, secrets()[at-1], x)
				if !ok {
					t.Fatal(course, i, at)
				}
				keys = append(keys, k)
				x = inside
			}
			if x != request(i) || !slices.Equal(keys, w.Keys) {
				t.Fatal(course, i, "another request")
			}
			unwraps(t, b, uint64(i%2), w.Keys, closed(b, uint64(i%2), keys, some(i, 36)), some(i, 36))
			shut(t, b, uint64(i%2), wrapped[(i+1)%6].Keys, closed(b, uint64(i%2), keys, some(i, 36)))
		}
		if b.Forged() != 0 {
			t.Error(course, "forged", b.Forged())
		}
	}
}

// Rules that hold everywhere

func TestTheListsHandedInAreAsTheyWere(t *testing.T) {
	for _, e := range []api.Errno{api.OK, api.ErrArg, api.ErrForm, api.ErrWeak} {
		keys, honest := append(pubs(), key(1), key(2)), []bool{true, false, true, true, false}
		from, inner := 1, request(1)
		switch e {
		case api.ErrArg:
			from = 4
		case api.ErrForm:
			inner = "x"
		case api.ErrWeak:
			keys[1] = api.Key{}
		}
		wasKeys, wasHonest := slices.Clone(keys), slices.Clone(honest)
		b, _ := bookOf(true, 75)
		if _, got := onion.Wrap(b, tape.New("t"), 5, from, keys[:3], honest[:3], inner); got != e {
			t.Error(got, e)
		}
		if !slices.Equal(keys, wasKeys) || !slices.Equal(honest, wasHonest) {
			t.Error("changed", e)
		}
	}
	keys := []api.Key{key(1), key(2), key(3), key(4)}
	was := slices.Clone(keys)
	x := closed(nil, 5, keys[:2], "reply")
	onion.Unwrap(nil, 5, keys[:2], x)
	onion.Unwrap(nil, 5, keys[:3], x)
	if !slices.Equal(keys, was) {
		t.Error("changed by Unwrap")
	}
}

func TestTheTextsHandedInAreAsTheyWere(t *testing.T) {
	handed := func(s string) (string, []byte) {
		b := []byte(s)
		return unsafe.String(&b[0], len(b)), b
	}
	inner, innerBytes := handed(request(1))
	w := wrap(t, nil, tape.New(some(1, 96)), 5, 1, none, inner)
	x, onionBytes := handed(w.Onion)
	onion.Peel(nil, 5, 1, secrets()[0], x)
	reply, replyBytes := handed("reply")
	box, boxBytes := handed(onion.Close(nil, 5, key(1), reply))
	onion.Unwrap(nil, 5, []api.Key{key(1)}, box)
	onion.Unwrap(nil, 5, nil, reply)
	if string(innerBytes) != request(1) || string(onionBytes) != w.Onion || string(replyBytes) != "reply" || string(boxBytes) != aead.Seal(key(1), forReply(5), "", "reply") {
		t.Error("changed")
	}
}

func TestWhatIsToldIsNewMemory(t *testing.T) {
	keys, p := pubs(), tape.New(some(1, 500))
	one, _ := onion.Wrap(nil, p, 5, 1, keys, none, request(1))
	two, _ := onion.Wrap(nil, p, 5, 1, keys, none, request(1))
	wasOne, wasTwo := slices.Clone(one.Keys), slices.Clone(two.Keys)
	for i := range keys {
		keys[i] = api.Key{}
	}
	if !slices.Equal(one.Keys, wasOne) || !slices.Equal(two.Keys, wasTwo) {
		t.Error("shared with what was handed in")
	}
	for i := range one.Keys[:cap(one.Keys)] {
		one.Keys[:cap(one.Keys)][i] = api.Key{}
	}
	if !slices.Equal(two.Keys, wasTwo) {
		t.Error("shared by two answers")
	}
	for _, ideal := range []bool{false, true} {
		b, _ := bookOf(ideal, 76)
		w := wrap(t, b, tape.New("t"), 5, 3, all, request(1))
		first, _, _ := onion.Peel(b, 5, 3, secrets()[2], w.Onion)
		again, _, _ := onion.Peel(b, 5, 3, secrets()[2], w.Onion)
		if first != request(1) || unsafe.StringData(first) == unsafe.StringData(again) {
			t.Error("Peel", ideal)
		}
		x := onion.Close(b, 5, w.Keys[0], "reply")
		first, _ = onion.Unwrap(b, 5, w.Keys, x)
		again, _ = onion.Unwrap(b, 5, w.Keys, x)
		if first != "reply" || unsafe.StringData(first) == unsafe.StringData(again) {
			t.Error("Unwrap", ideal)
		}
	}
	reply := strings.Repeat("r", 36)
	first, _ := onion.Unwrap(nil, 5, nil, reply)
	again, _ := onion.Unwrap(nil, 5, nil, reply)
	a, b, c := unsafe.StringData(reply), unsafe.StringData(first), unsafe.StringData(again)
	if a == b || a == c || b == c {
		t.Error("Unwrap without keys")
	}
}

func TestNothingIsKept(t *testing.T) {
	// without a book an answer hangs on nothing that was called before
	want := plainWrap(t, 5)
	for i := range 5 {
		wrap(t, nil, tape.New(some(i, 96)), uint64(i), 1+i%3, all, request(i))
		onion.Peel(nil, 5, 1, secrets()[0], turned(want.Onion, i))
		onion.Unwrap(nil, 5, want.Keys, onion.Close(nil, 5, key(i), "x"))
		if got := plainWrap(t, 5); got.Onion != want.Onion || !slices.Equal(got.Keys, want.Keys) {
			t.Error(i)
		}
	}
}
