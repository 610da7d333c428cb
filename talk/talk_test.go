package talk_test

import (
	"crypto/ecdh"
	"crypto/sha256"
	"encoding/binary"
	"fmt"
	"math"
	"math/rand/v2"
	"slices"
	"strings"
	"testing"
	"unsafe"

	"billet/aead"
	"billet/api"
	"billet/book"
	"billet/talk"
	"billet/tape"
)

// some is n bytes that look like chance, the same for the same seed.
func some(seed, n int) string {
	var b []byte
	for i := 0; len(b) < n; i++ {
		h := sha256.Sum256(fmt.Append(nil, seed, i))
		b = append(b, h[:]...)
	}
	return string(b[:n])
}

func noughts(n int) string {
	return strings.Repeat("\x00", n)
}

func key(seed int) api.Key {
	return api.Key([]byte(some(seed, 32)))
}

// keyAt is the bytes of a text from there on.
func keyAt(s string, at int) api.Key {
	return api.Key([]byte(s[at : at+32]))
}

func text(k api.Key) string {
	return string(k[:])
}

// turned is the text with one of its bits turned.
func turned(text string, bit int) string {
	b := []byte(text)
	b[bit/8] ^= 1 << (bit % 8)
	return string(b)
}

// What the chapter's words come to, by the library's own curve and digests.

func public(secret api.Key) api.Key {
	k, err := ecdh.X25519().NewPrivateKey(secret[:])
	if err != nil {
		panic(err)
	}
	return api.Key(k.PublicKey().Bytes())
}

// common is what a secret and a public key come to; false: noughts.
func common(secret, other api.Key) (api.Key, bool) {
	k, err := ecdh.X25519().NewPrivateKey(secret[:])
	if err != nil {
		panic(err)
	}
	u, err := ecdh.X25519().NewPublicKey(other[:])
	if err != nil {
		panic(err)
	}
	s, err := k.ECDH(u)
	if err != nil {
		return api.Key{}, false
	}
	return api.Key(s), true
}

// digest is that of texts, each with its length ahead of it.
func digest(parts ...string) api.Key {
	var b []byte
	for _, p := range parts {
		b = binary.LittleEndian.AppendUint32(b, uint32(len(p)))
		b = append(b, p...)
	}
	return sha256.Sum256(b)
}

func eight(round uint64) string {
	return string(binary.LittleEndian.AppendUint64(nil, round))
}

// pairOf is what Meet has to tell of keys that are not weak.
func pairOf(secret, other api.Key) talk.Pair {
	own := public(secret)
	s, ok := common(secret, other)
	if !ok {
		panic("weak")
	}
	first, second := own, other
	for i := range 32 {
		if own[i] != other[i] {
			if own[i] > other[i] {
				first, second = other, own
			}
			break
		}
	}
	return talk.Pair{
		Out:  digest("billet talk", text(s), text(own), text(other)),
		In:   digest("billet talk", text(s), text(other), text(own)),
		Root: digest("billet drop", text(s), text(first), text(second)),
	}
}

// nameOf is the first 16 bytes of the digest of the label, the root and the round.
func nameOf(root api.Key, round uint64) string {
	k := digest("billet name", text(root), eight(round))
	return string(k[:16])
}

func forTalk(round uint64) api.Nonce {
	return api.Nonce([]byte("\x03\x00\x00\x00" + eight(round)))
}

// bodyOf is a text's length in one byte, the text, and noughts up to 20 bytes.
func bodyOf(said string) string {
	return string([]byte{byte(len(said))}) + said + noughts(19-len(said))
}

// plainRequest is what Say has to tell without a book.
func plainRequest(p talk.Pair, round uint64, said string) string {
	return nameOf(p.Root, round) + aead.Seal(p.Out, forTalk(round), "", bodyOf(said))
}

var rounds = []uint64{0, 1, 5, 256, 1 << 32, math.MaxUint64}

// texts are of each length that may be, and of bytes of all kinds.
func texts() []string {
	l := []string{"hello", "\x00", "ends in noughts\x00\x00", "\xff\xfe\x80", strings.Repeat("\xff", 19), noughts(19), "grüße", "\x13"}
	for n := range 20 {
		l = append(l, some(n, n))
	}
	return l
}

// long are texts that are too long.
func long() []string {
	return []string{some(1, 20), noughts(20), some(1, 21), some(1, 36), some(1, 255), some(1, 256), some(1, 275), some(1, 70000)}
}

// weak are public keys that have noughts in common with whatever secret.
func weak() []api.Key {
	filled := func(first, last byte) api.Key {
		k := api.Key([]byte(strings.Repeat("\xff", 32)))
		k[0], k[31] = first, last
		return k
	}
	return []api.Key{{}, {1}, {31: 0x80}, {0: 1, 31: 0x80}, filled(0xec, 0x7f), filled(0xed, 0x7f), filled(0xee, 0x7f),
		filled(0xec, 0xff), filled(0xed, 0xff), filled(0xee, 0xff),
		keyAt("\xe0\xeb\x7a\x7c\x3b\x41\xb8\xae\x16\x56\xe3\xfa\xf1\x9f\xc4\x6a\xda\x09\x8d\xeb\x9c\x32\xb1\xfd\x86\x62\x05\x16\x5f\x49\xb8\x00", 0),
		keyAt("\x5f\x9c\x95\xbc\xa3\x50\x8c\x24\xb1\xd0\xb1\x55\x9c\x83\xef\x5b\x04\x44\x5c\xc4\x58\x1c\x8e\x86\xd8\x22\x4e\xdd\xd0\x9f\x11\x57", 0)}
}

// bookOf is a new book of that game, and its tape.
func bookOf(ideal bool, seed int) (*book.Book, *tape.Tape) {
	p := tape.New(some(seed, 4096))
	return book.New(ideal, p), p
}

// books are no book, and a new one of each game.
func books() []*book.Book {
	real, _ := bookOf(false, 90)
	ideal, _ := bookOf(true, 91)
	return []*book.Book{nil, real, ideal}
}

// meet is a Meet that has to be fine.
func meet(t *testing.T, secret, other api.Key) talk.Pair {
	t.Helper()
	p, e := talk.Meet(secret, other)
	if e != api.OK {
		t.Fatal("Meet", e)
	}
	return p
}

// two are the pairs of two users, the one's first.
func two(t *testing.T) (talk.Pair, talk.Pair) {
	t.Helper()
	return meet(t, key(1), public(key(2))), meet(t, key(2), public(key(1)))
}

// say is a Say that has to be fine: its name and its box.
func say(t *testing.T, b *book.Book, p talk.Pair, honest bool, round uint64, said string) (string, string) {
	t.Helper()
	s, e := talk.Say(b, p, honest, round, said)
	if e != api.OK || len(s) != 52 {
		t.Fatalf("Say of %q: error %d, %d bytes", said, e, len(s))
	}
	return s[:16], s[16:]
}

// hears holds that Hear tells that text.
func hears(t *testing.T, b *book.Book, p talk.Pair, round uint64, box, said string) {
	t.Helper()
	if got, ok := talk.Hear(b, p, round, box); !ok || got != said {
		t.Fatalf("Hear in round %d: %q, %v; not %q", round, got, ok, said)
	}
}

// deaf holds that Hear tells false, and no text.
func deaf(t *testing.T, b *book.Book, p talk.Pair, round uint64, box string) {
	t.Helper()
	if got, ok := talk.Hear(b, p, round, box); ok || got != "" {
		t.Fatalf("Hear in round %d of %d bytes: %q, %v", round, len(box), got, ok)
	}
}

// The chapter's examples

func TestExampleOfTwoWhoMeet(t *testing.T) {
	p, q := two(t)
	if p.Out != q.In {
		t.Error("the one's Out is not the other one's In")
	}
}

func TestExampleOfTwentyBytes(t *testing.T) {
	p, _ := two(t)
	if s, e := talk.Say(nil, p, true, 1, strings.Repeat("x", 20)); s != "" || e != api.ErrLong {
		t.Error(s, e)
	}
}

// P16.1: Meet

func TestMeetIsOfTheSecretAndBothKeys(t *testing.T) {
	for i := range 12 {
		for j := range 12 {
			other := public(key(j))
			if got := meet(t, key(i), other); got != pairOf(key(i), other) {
				t.Fatal(i, j, "another pair")
			}
		}
	}
}

func TestMeetOfAnyBytes(t *testing.T) {
	// what is handed in need not be a key that somebody has
	for i := range 20 {
		other := keyAt(some(i, 64), 32)
		if got := meet(t, key(i), other); got != pairOf(key(i), other) {
			t.Fatal(i, "another pair")
		}
	}
	for _, secret := range []api.Key{{}, {1}, {255}, api.Key([]byte(strings.Repeat("\xff", 32)))} {
		other := public(key(1))
		if got := meet(t, secret, other); got != pairOf(secret, other) {
			t.Errorf("%x: another pair", secret)
		}
	}
}

func TestMeetOfAKeyWithItsHighestBitTurned(t *testing.T) {
	// the curve takes no notice of it, so that the shared secret is the same; the keys are not
	other := public(key(2))
	high := keyAt(turned(text(other), 255), 0)
	p, q := meet(t, key(1), other), meet(t, key(1), high)
	if q != pairOf(key(1), high) || p.Out == q.Out || p.In == q.In || p.Root == q.Root {
		t.Error("the highest bit does not count")
	}
}

func TestMeetOfASecretsBits(t *testing.T) {
	p := meet(t, key(1), public(key(2)))
	for bit := range 256 {
		same := bit <= 2 || bit >= 254 // of these the curve takes no notice: it is the same secret
		if bit%16 != 3 && !same {
			continue
		}
		q := meet(t, keyAt(turned(text(key(1)), bit), 0), public(key(2)))
		if (p == q) != same {
			t.Error("bit", bit)
		}
		if !same && (p.Out == q.Out || p.In == q.In || p.Root == q.Root) {
			t.Error("bit", bit, "a key is the same")
		}
	}
}

func TestMeetOfAWeakKey(t *testing.T) {
	for _, other := range weak() {
		for _, secret := range []api.Key{key(1), key(2), {}, {8}} {
			if p, e := talk.Meet(secret, other); e != api.ErrWeak || p != (talk.Pair{}) {
				t.Errorf("%x: %d, %v", other, e, p)
			}
		}
	}
	if _, e := talk.Meet(key(1), public(key(2))); e != api.OK {
		t.Error("behind weak ones", e)
	}
}

func TestMeetOfOneself(t *testing.T) {
	for i := range 5 {
		p := meet(t, key(i), public(key(i)))
		if p != pairOf(key(i), public(key(i))) || p.Out != p.In || p.Root == p.Out {
			t.Error(i)
		}
	}
}

func TestRootsOfKeysThatAreTheSameAtFirst(t *testing.T) {
	// in any one of the bytes, those ahead of it, or behind it, being the same
	own := public(key(1))
	for at := range 32 {
		for _, step := range []int{1, 127, 128, 255} {
			other := own
			other[at] += byte(step)
			if got := meet(t, key(1), other); got != pairOf(key(1), other) {
				t.Errorf("byte %d, %d on: another pair", at, step)
			}
			// the bytes further on go the other way
			for i := at + 1; i < 32; i++ {
				other[i] = 255 - own[i]
			}
			if got := meet(t, key(1), other); got != pairOf(key(1), other) {
				t.Errorf("byte %d, %d on, and all behind it: another pair", at, step)
			}
		}
	}
}

func TestRootsOfUsersWhoseKeysAreTheSameAtFirst(t *testing.T) {
	// users whose keys' first bytes are alike; among so many there are some whose first two are
	met := [3]int{}
	first := map[string]int{}
	for i := range 1500 {
		own := public(key(i))
		for n := 1; n <= 2; n++ {
			j, ok := first[text(own)[:n]]
			first[text(own)[:n]] = i
			if !ok || met[n] > 20 {
				continue
			}
			met[n]++
			p, q := meet(t, key(i), public(key(j))), meet(t, key(j), own)
			if p != pairOf(key(i), public(key(j))) || q != pairOf(key(j), own) || p.Root != q.Root || p.Out != q.In || p.In != q.Out {
				t.Error(i, j)
			}
		}
	}
	if met[1] == 0 || met[2] == 0 {
		t.Error("none to try", met)
	}
}

// P16.1: Name

func TestNameIsOfTheRootAndTheRound(t *testing.T) {
	seen := map[api.ID]bool{}
	for i := range 5 {
		for _, round := range append(slices.Clone(rounds), 2, 3, 255, 257, 1<<63, math.MaxUint64-1) {
			id := talk.Name(key(i), round)
			if string(id[:]) != nameOf(key(i), round) {
				t.Errorf("root %d, round %d: %x", i, round, id)
			}
			if seen[id] {
				t.Error("told twice", i, round)
			}
			seen[id] = true
		}
	}
	id := talk.Name(api.Key{}, 0)
	if string(id[:]) != nameOf(api.Key{}, 0) {
		t.Errorf("of noughts: %x", id)
	}
}

func TestNameHangsOnEachBit(t *testing.T) {
	id := talk.Name(key(1), 5)
	for bit := range 64 {
		if talk.Name(key(1), 5^1<<bit) == id {
			t.Error("round's bit", bit)
		}
	}
	for bit := range 256 {
		if talk.Name(keyAt(turned(text(key(1)), bit), 0), 5) == id {
			t.Error("root's bit", bit)
		}
	}
}

// P16.2: Say

func TestSayWithoutABook(t *testing.T) {
	p, q := two(t)
	for _, round := range rounds {
		for _, said := range texts() {
			for _, honest := range []bool{false, true} {
				s, e := talk.Say(nil, p, honest, round, said)
				if e != api.OK || s != plainRequest(p, round, said) {
					t.Fatalf("%q in round %d: %d, %x", said, round, e, s)
				}
				hears(t, nil, q, round, s[16:], said)
			}
		}
	}
}

func TestSayByAnyPair(t *testing.T) {
	// a pair need not come of a Meet
	for i := range 5 {
		p := talk.Pair{Out: key(i), In: key(i + 10), Root: key(i + 20)}
		name, box := say(t, nil, p, true, 7, "any")
		if name+box != plainRequest(p, 7, "any") {
			t.Error(i)
		}
		hears(t, nil, talk.Pair{In: key(i)}, 7, box, "any") // what it is heard by is the In alone
	}
	name, box := say(t, nil, talk.Pair{}, true, 7, "any")
	if name+box != plainRequest(talk.Pair{}, 7, "any") {
		t.Error("of noughts")
	}
}

func TestSayInTheRealGame(t *testing.T) {
	p, q := two(t)
	for _, said := range texts() {
		for _, honest := range []bool{false, true} {
			b, bp := bookOf(false, 1)
			name, box := say(t, b, p, honest, 5, said)
			if name+box != plainRequest(p, 5, said) {
				t.Fatalf("%q: another request", said)
			}
			if b.Shared(p.Out) != honest || b.Shared(p.In) != honest || b.Shared(p.Root) {
				t.Fatal("shared", honest, b.Shared(p.Out), b.Shared(p.In), b.Shared(p.Root))
			}
			hears(t, b, q, 5, box, said)
			if bp.Used() != 0 || b.Forged() != 0 {
				t.Fatal("taken or forged", bp.Used(), b.Forged())
			}
		}
	}
}

func TestSayInTheIdealGame(t *testing.T) {
	p, q := two(t)
	fresh := some(2, 4096)
	for _, round := range rounds {
		for _, said := range texts() {
			b, bp := bookOf(true, 2)
			name, box := say(t, b, p, true, round, said)
			if !b.Shared(p.Out) || !b.Shared(p.In) || b.Shared(p.Root) || bp.Used() != 80 {
				t.Fatal("shared, or taken", b.Shared(p.Out), b.Shared(p.In), bp.Used())
			}
			if b.Key(p.Out) != keyAt(fresh, 0) || b.Key(p.In) != keyAt(fresh, 32) {
				t.Fatal("in another row")
			}
			if id := b.ID(talk.Name(p.Root, round)); string(id[:]) != fresh[64:80] || name != fresh[64:80] {
				t.Fatalf("another name: %x", name)
			}
			if box != aead.Seal(keyAt(fresh, 0), forTalk(round), "", noughts(20)) {
				t.Fatalf("%q: another box", said)
			}
			hears(t, b, q, round, box, said)
			if bp.Used() != 80 || b.Forged() != 0 {
				t.Fatal("taken by Hear", bp.Used(), b.Forged())
			}
		}
	}
}

func TestSayToOneWhoIsNotHonestInTheIdealGame(t *testing.T) {
	p, q := two(t)
	for _, said := range texts() {
		b, bp := bookOf(true, 3)
		name, box := say(t, b, p, false, 5, said)
		if name+box != plainRequest(p, 5, said) {
			t.Fatalf("%q: another request", said)
		}
		if b.Shared(p.Out) || b.Shared(p.In) || bp.Used() != 0 || b.ID(talk.Name(p.Root, 5)) != talk.Name(p.Root, 5) {
			t.Fatal("shared")
		}
		hears(t, b, q, 5, box, said)
		hears(t, nil, q, 5, box, said)
	}
}

func TestSayOfWhatIsSharedAlready(t *testing.T) {
	// the second one of both says something too, then both in another round: the name alone is fresh
	p, q := two(t)
	b, bp := bookOf(true, 4)
	fresh := some(4, 4096)
	one, oneBox := say(t, b, p, true, 5, "one")
	two, twoBox := say(t, b, q, true, 5, "two")
	if one != two || bp.Used() != 80 {
		t.Error("another name, or taken", bp.Used())
	}
	if twoBox != aead.Seal(keyAt(fresh, 32), forTalk(5), "", noughts(20)) {
		t.Error("another box")
	}
	next, nextBox := say(t, b, q, true, 6, "next")
	if next != fresh[80:96] || bp.Used() != 96 || nextBox != aead.Seal(keyAt(fresh, 32), forTalk(6), "", noughts(20)) {
		t.Error("in the next round", bp.Used())
	}
	// what is shared stays so, if later on it is said that the other one is not honest
	name, box := say(t, b, p, false, 6, "again")
	if name != next || box != aead.Seal(keyAt(fresh, 0), forTalk(6), "", noughts(20)) || bp.Used() != 96 {
		t.Error("not honest any more", bp.Used())
	}
	hears(t, b, q, 5, oneBox, "one")
	hears(t, b, p, 5, twoBox, "two")
	hears(t, b, p, 6, nextBox, "next")
	hears(t, b, q, 6, box, "again")
	// a name that is not shared yet, of keys that are
	name, _ = say(t, b, p, false, 7, "seven")
	if name != nameOf(p.Root, 7) || bp.Used() != 96 {
		t.Error("a name that is not shared")
	}
}

func TestSayToOneselfInTheIdealGame(t *testing.T) {
	p := meet(t, key(1), public(key(1)))
	b, bp := bookOf(true, 5)
	name, box := say(t, b, p, true, 5, "to myself")
	fresh := some(5, 48)
	if bp.Used() != 48 || b.Key(p.Out) != keyAt(fresh, 0) || name != fresh[32:] {
		t.Error("one key alone is fresh", bp.Used())
	}
	hears(t, b, p, 5, box, "to myself")
}

func TestSayInABookWithoutATape(t *testing.T) {
	p, q := two(t)
	b := book.New(true, nil)
	name, box := say(t, b, p, true, 5, "hello")
	if name != noughts(16) || box != aead.Seal(api.Key{}, forTalk(5), "", noughts(20)) {
		t.Error("not of noughts")
	}
	hears(t, b, q, 5, box, "hello")
	deaf(t, b, p, 5, box)
}

func TestSayOfTooLongATextSharesNothing(t *testing.T) {
	p, _ := two(t)
	for _, said := range long() {
		for _, honest := range []bool{false, true} {
			for _, ideal := range []bool{false, true} {
				b, bp := bookOf(ideal, 6)
				if s, e := talk.Say(b, p, honest, 5, said); s != "" || e != api.ErrLong {
					t.Errorf("of %d bytes: %d, %x", len(said), e, s)
				}
				if b.Shared(p.Out) || b.Shared(p.In) || bp.Used() != 0 || b.ID(talk.Name(p.Root, 5)) != talk.Name(p.Root, 5) {
					t.Errorf("of %d bytes: shared", len(said))
				}
			}
			if s, e := talk.Say(nil, p, honest, 5, said); s != "" || e != api.ErrLong {
				t.Errorf("of %d bytes without a book: %d, %x", len(said), e, s)
			}
		}
	}
}

func TestSayOfAsLongATextAsMayBe(t *testing.T) {
	p, q := two(t)
	for _, b := range books() {
		for _, said := range []string{strings.Repeat("x", 19), ""} {
			_, box := say(t, b, p, true, 5, said)
			hears(t, b, q, 5, box, said)
		}
	}
}

// P16.2: Hear

func TestHearOfATurnedBit(t *testing.T) {
	p, q := two(t)
	for _, said := range []string{"", "hello", some(1, 19)} {
		for _, b := range books() {
			_, box := say(t, b, p, true, 5, said)
			for bit := range 8 * len(box) {
				deaf(t, b, q, 5, turned(box, bit))
			}
			hears(t, b, q, 5, box, said)
			if b.Forged() != 0 {
				t.Error("forged", b.Forged())
			}
		}
	}
}

func TestHearOfAnotherLength(t *testing.T) {
	p, q := two(t)
	for _, b := range books() {
		name, box := say(t, b, p, true, 5, "hello")
		for n := range len(box) {
			deaf(t, b, q, 5, box[:n])
			deaf(t, b, q, 5, box[n+1:])
			deaf(t, b, q, 5, noughts(n))
		}
		deaf(t, b, q, 5, box+"x")
		deaf(t, b, q, 5, box+box)
		deaf(t, b, q, 5, name+box)
		deaf(t, b, q, 5, noughts(36))
		deaf(t, b, q, 5, some(1, 36))
	}
}

func TestHearInAnotherRound(t *testing.T) {
	p, q := two(t)
	for _, b := range books() {
		for _, round := range rounds {
			_, box := say(t, b, p, true, round, "hello")
			for _, other := range rounds {
				if _, ok := talk.Hear(b, q, other, box); ok != (round == other) {
					t.Errorf("of round %d in round %d: %v", round, other, ok)
				}
			}
			for bit := range 64 {
				deaf(t, b, q, round^1<<bit, box)
			}
		}
	}
}

func TestHearByAnotherPair(t *testing.T) {
	p, q := two(t)
	for _, b := range books() {
		for _, honest := range []bool{true, false} {
			_, box := say(t, b, p, honest, 5, "hello")
			deaf(t, b, p, 5, box)                                             // turned round: the one who said it
			deaf(t, b, meet(t, key(3), public(key(1))), 5, box)               // somebody else
			deaf(t, b, meet(t, key(2), public(key(3))), 5, box)               // the right one, of somebody else
			deaf(t, b, talk.Pair{Out: q.In, In: q.Out, Root: q.Root}, 5, box) // the fields turned round
			deaf(t, b, talk.Pair{Out: q.In, In: q.Root, Root: q.In}, 5, box)
			deaf(t, b, talk.Pair{}, 5, box)
			for bit := range 256 {
				deaf(t, b, talk.Pair{Out: q.Out, In: keyAt(turned(text(q.In), bit), 0), Root: q.Root}, 5, box)
			}
			hears(t, b, talk.Pair{In: q.In}, 5, box, "hello")
		}
	}
}

func TestHearOfWhatIsNoBody(t *testing.T) {
	_, q := two(t)
	none := []string{"", "\x00", noughts(19), noughts(21), noughts(36), bodyOf("x") + "\x00", bodyOf("x")[:19],
		"\x14" + some(1, 19), "\xff" + some(1, 19), strings.Repeat("\xff", 20), "\x00" + noughts(18) + "\x01", "\x02ab" + "\x01" + noughts(16), "\x80" + noughts(19)}
	for i, body := range none {
		box := aead.Seal(q.In, forTalk(5), "", body)
		deaf(t, nil, q, 5, box)
		b, _ := bookOf(false, 7)
		deaf(t, b, q, 5, box)
		b.Share(q.In)
		deaf(t, b, q, 5, box)
		if b.Forged() != 1 { // it did open, and stays counted
			t.Error(i, "forged", b.Forged())
		}
		// as an honest one's, that is noted
		for _, ideal := range []bool{false, true} {
			b, _ := bookOf(ideal, 7)
			b.Share(q.In)
			deaf(t, b, q, 5, b.Seal(q.In, forTalk(5), body))
			if b.Forged() != 0 {
				t.Error(i, "forged", b.Forged())
			}
		}
	}
}

func TestHearOfABoxForSomethingElse(t *testing.T) {
	_, q := two(t)
	for _, what := range []string{"\x00", "\x01", "\x02", "\x04"} {
		n := api.Nonce([]byte(what + noughts(3) + eight(5)))
		deaf(t, nil, q, 5, aead.Seal(q.In, n, "", bodyOf("hello")))
		for _, ideal := range []bool{false, true} {
			b, _ := bookOf(ideal, 8)
			b.Share(q.In)
			deaf(t, b, q, 5, b.Seal(q.In, n, bodyOf("hello")))
		}
	}
	deaf(t, nil, q, 5, aead.Seal(q.In, forTalk(5), "extra", bodyOf("hello")))
}

func TestHearOfAForgery(t *testing.T) {
	p, q := two(t)
	box := aead.Seal(p.Out, forTalk(5), "", bodyOf("forged"))
	real, _ := bookOf(false, 9)
	hears(t, real, q, 5, box, "forged")
	if real.Forged() != 0 {
		t.Error("nothing is shared yet", real.Forged())
	}
	say(t, real, p, true, 5, "hello")
	hears(t, real, q, 5, box, "forged")
	if real.Forged() != 1 {
		t.Error("forged", real.Forged())
	}
	say(t, real, p, true, 5, "forged") // now it was said
	hears(t, real, q, 5, box, "forged")
	if real.Forged() != 1 {
		t.Error("forged", real.Forged())
	}
	ideal, _ := bookOf(true, 9)
	hears(t, ideal, q, 5, box, "forged")
	say(t, ideal, p, true, 5, "forged")
	deaf(t, ideal, q, 5, box)
	// noughts under the fresh key are a box; under a key that nobody knows nobody else makes one
	hears(t, ideal, q, 5, aead.Seal(ideal.Key(p.Out), forTalk(5), "", noughts(20)), "forged")
	deaf(t, ideal, q, 5, aead.Seal(ideal.Key(p.Out), forTalk(5), "", bodyOf("forged")))
	if ideal.Forged() != 0 {
		t.Error("forged", ideal.Forged())
	}
}

func TestHearSharesNothing(t *testing.T) {
	p, q := two(t)
	for _, ideal := range []bool{false, true} {
		b, bp := bookOf(ideal, 10)
		_, box := say(t, nil, p, true, 5, "hello")
		hears(t, b, q, 5, box, "hello")
		deaf(t, b, q, 6, box)
		if b.Shared(p.Out) || b.Shared(p.In) || bp.Used() != 0 {
			t.Error("shared", ideal)
		}
	}
}

func TestHearOfWhatWasSaidLast(t *testing.T) {
	// in the ideal game two texts of one round are one box: the last one counts
	p, q := two(t)
	b, _ := bookOf(true, 11)
	_, one := say(t, b, p, true, 5, "one")
	hears(t, b, q, 5, one, "one")
	_, two := say(t, b, p, true, 5, "two")
	if one != two {
		t.Error("the text is to be seen")
	}
	hears(t, b, q, 5, two, "two")
	// in the real one both are told
	b, _ = bookOf(false, 11)
	_, one = say(t, b, p, true, 5, "one")
	_, two = say(t, b, p, true, 5, "two")
	hears(t, b, q, 5, one, "one")
	hears(t, b, q, 5, two, "two")
}

// P16.2: Idle

func TestIdle(t *testing.T) {
	for i, round := range rounds {
		s := some(i, 200)
		p := tape.New(s)
		want := s[:16] + aead.Seal(keyAt(s, 16), forTalk(round), "", noughts(20))
		if got := talk.Idle(p, round); got != want || len(got) != 52 {
			t.Errorf("round %d: %x", round, got)
		}
		if p.Used() != 48 {
			t.Error("taken", p.Used())
		}
		want = s[48:64] + aead.Seal(keyAt(s, 64), forTalk(round), "", noughts(20))
		if got := talk.Idle(p, round); got != want || p.Used() != 96 {
			t.Errorf("round %d, once more: %x, %d", round, got, p.Used())
		}
	}
}

func TestIdleOfATapeThatEnds(t *testing.T) {
	for n := range 60 {
		s := some(20, n)
		p := tape.New(s)
		s += noughts(60)
		if got := talk.Idle(p, 5); got != s[:16]+aead.Seal(keyAt(s, 16), forTalk(5), "", noughts(20)) || p.Used() != 48 {
			t.Errorf("of %d bytes: %x, %d", n, got, p.Used())
		}
	}
}

func TestIdleWithoutATape(t *testing.T) {
	for _, round := range rounds {
		want := noughts(16) + aead.Seal(api.Key{}, forTalk(round), "", noughts(20))
		if talk.Idle(nil, round) != want || talk.Idle(tape.New(""), round) != want {
			t.Error("round", round)
		}
	}
}

func TestIdleSaysNothingToAnybody(t *testing.T) {
	p, q := two(t)
	s := talk.Idle(tape.New(some(1, 48)), 5)
	for _, b := range books() {
		say(t, b, p, true, 5, "hello")
		for _, x := range []talk.Pair{p, q, {}} {
			deaf(t, b, x, 5, s[16:])
		}
	}
	// its box is a seal as any other one, in its round
	hears(t, nil, talk.Pair{In: keyAt(some(1, 48), 16)}, 5, s[16:], "")
	deaf(t, nil, talk.Pair{In: keyAt(some(1, 48), 16)}, 6, s[16:])
}

// P16.3

func TestWhatTwoHaveInCommon(t *testing.T) {
	for i := range 14 {
		for j := range i {
			p, q := meet(t, key(i), public(key(j))), meet(t, key(j), public(key(i)))
			if p.Out != q.In || p.In != q.Out || p.Root != q.Root || p.Out == p.In {
				t.Fatal(i, j)
			}
			if p.Root == p.Out || p.Root == p.In {
				t.Fatal(i, j, "the root is a key of what is said")
			}
			for _, round := range rounds {
				if talk.Name(p.Root, round) != talk.Name(q.Root, round) {
					t.Fatal(i, j, "unlike names")
				}
			}
		}
	}
}

func TestNoTwoPairsHaveAKeyInCommon(t *testing.T) {
	seen := map[api.Key]bool{}
	for i := range 10 {
		for j := range i {
			p := meet(t, key(i), public(key(j)))
			for _, k := range []api.Key{p.Out, p.In, p.Root} {
				if seen[k] {
					t.Error(i, j, "a key of others")
				}
				seen[k] = true
			}
		}
	}
}

func TestBothAreHeard(t *testing.T) {
	p, q := two(t)
	for _, b := range books() {
		for _, round := range rounds {
			one, oneBox := say(t, b, p, true, round, "from the one")
			two, twoBox := say(t, b, q, true, round, "from the other")
			if one != two {
				t.Error("unlike names in round", round)
			}
			hears(t, b, q, round, oneBox, "from the one")
			hears(t, b, p, round, twoBox, "from the other")
			deaf(t, b, p, round, oneBox)
			deaf(t, b, q, round, twoBox)
		}
		if b.Forged() != 0 {
			t.Error("forged", b.Forged())
		}
	}
}

// Two games

func TestWhatIsSeenInTheIdealGame(t *testing.T) {
	p, _ := two(t)
	var seen []string
	for _, said := range texts() {
		b, _ := bookOf(true, 12)
		name, box := say(t, b, p, true, 5, said)
		seen = append(seen, name+box)
	}
	if len(slices.Compact(seen)) != 1 {
		t.Error("what is said is to be seen")
	}
	// to one who is not honest it is
	b, _ := bookOf(true, 12)
	_, one := say(t, b, p, false, 5, "one")
	_, two := say(t, b, p, false, 5, "two")
	if one == two {
		t.Error("alike")
	}
}

// saying is something that was said in a course of calls.
type saying struct {
	from, to int
	honest   bool
	round    uint64
	box, was string
}

func TestCourses(t *testing.T) {
	for course := range 60 {
		r := rand.New(rand.NewPCG(3, uint64(course)))
		ideal := course%2 == 1
		b, _ := bookOf(ideal, course)
		pairs := map[[2]int]talk.Pair{}
		for i := range 3 {
			for j := range 3 {
				if i != j {
					pairs[[2]int{i, j}] = meet(t, key(i), public(key(j)))
				}
			}
		}
		honest := func(i, j int) bool { return i+j != 3 } // both ways round the same; those of 1 and 2 are not
		var sayings []saying
		for range 40 {
			from := r.IntN(3)
			to := (from + 1 + r.IntN(2)) % 3
			s := saying{from: from, to: to, honest: honest(from, to), round: uint64(r.IntN(3)), was: some(r.IntN(50), r.IntN(20))}
			_, s.box = say(t, b, pairs[[2]int{from, to}], s.honest, s.round, s.was)
			for i := range sayings { // one box for both: the last one counts
				if ideal && s.honest && sayings[i].from == from && sayings[i].to == to && sayings[i].round == s.round {
					sayings[i].was = s.was
				}
			}
			sayings = append(sayings, s)
			x := sayings[r.IntN(len(sayings))]
			for ends, p := range pairs {
				for round := range uint64(3) {
					if ends == [2]int{x.to, x.from} && round == x.round {
						hears(t, b, p, round, x.box, x.was)
					} else {
						deaf(t, b, p, round, x.box)
					}
				}
			}
		}
		if b.Forged() != 0 {
			t.Error(course, "forged", b.Forged())
		}
	}
}

// Rules that hold everywhere

func TestTheTextsHandedInAreAsTheyWere(t *testing.T) {
	handed := func(s string) (string, []byte) {
		b := []byte(s)
		return unsafe.String(&b[0], len(b)), b
	}
	p, q := two(t)
	for _, b := range books() {
		said, saidBytes := handed("hello")
		tooLong, tooLongBytes := handed(some(1, 20))
		_, box := say(t, b, p, true, 5, said)
		talk.Say(b, p, true, 5, tooLong)
		handedBox, boxBytes := handed(box)
		hears(t, b, q, 5, handedBox, "hello")
		deaf(t, b, q, 6, handedBox)
		if string(saidBytes) != "hello" || string(tooLongBytes) != some(1, 20) || string(boxBytes) != box {
			t.Error("changed")
		}
		// nor are they kept
		clear(saidBytes)
		clear(boxBytes)
		hears(t, b, q, 5, box, "hello")
	}
}

func TestWhatIsToldIsNewMemory(t *testing.T) {
	p, q := two(t)
	for i, b := range books() {
		one, _ := talk.Say(b, p, true, 5, "hello")
		two, _ := talk.Say(b, p, true, 5, "hello")
		if one != two || unsafe.StringData(one) == unsafe.StringData(two) {
			t.Error("Say", i)
		}
		first, _ := talk.Hear(b, q, 5, one[16:])
		again, _ := talk.Hear(b, q, 5, one[16:])
		if first != "hello" || first != again || unsafe.StringData(first) == unsafe.StringData(again) {
			t.Error("Hear", i)
		}
	}
	one, two := talk.Idle(nil, 5), talk.Idle(nil, 5)
	if unsafe.StringData(one) == unsafe.StringData(two) {
		t.Error("Idle")
	}
}

func TestNothingIsKept(t *testing.T) {
	p, q := two(t)
	want := plainRequest(p, 5, "hello")
	for i := range 5 {
		talk.Meet(key(i), api.Key{})
		talk.Say(nil, q, true, 5, "another")
		talk.Say(nil, p, true, 5, some(i, 20))
		talk.Idle(tape.New(some(i, 48)), 5)
		deaf(t, nil, q, 5, noughts(36))
		if s, e := talk.Say(nil, p, i%2 == 0, 5, "hello"); e != api.OK || s != want {
			t.Error(i, e)
		}
		hears(t, nil, q, 5, want[16:], "hello")
	}
}
