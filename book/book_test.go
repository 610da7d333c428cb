package book_test

import (
	"crypto/sha256"
	"fmt"
	"math/rand/v2"
	"strings"
	"testing"
	"unsafe"

	"billet/aead"
	"billet/api"
	"billet/book"
	"billet/tape"
)

// some is n bytes that look like chance, the same for the same seed.
func some(seed, n int) string {
	var b []byte
	for i := 0; len(b) < n; i++ {
		h := sha256.Sum256(fmt.Append(nil, seed, i))
		b = append(b, h[:]...)
	}
	return string(b[:n])
}

func noughts(n int) string {
	return strings.Repeat("\x00", n)
}

// key, id and nonce are those of a seed.
func key(seed int) api.Key     { return api.Key([]byte(some(seed, 32))) }
func id(seed int) api.ID       { return api.ID([]byte(some(seed, 16))) }
func nonce(seed int) api.Nonce { return api.Nonce([]byte(some(seed, 12))) }

// keyAt and idAt are the bytes of a text from there on.
func keyAt(s string, at int) api.Key { return api.Key([]byte(s[at : at+32])) }
func idAt(s string, at int) api.ID   { return api.ID([]byte(s[at : at+16])) }

// turned is the text with one of its bits turned.
func turned(text string, bit int) string {
	b := []byte(text)
	b[bit/8] ^= 1 << (bit % 8)
	return string(b)
}

// plains are texts of the sizes about the edges of the blocks, with noughts ahead, behind and alone.
func plains() []string {
	l := []string{"\x00", "\x00x", "x\x00", noughts(20), strings.Repeat("\xff", 20)}
	for i, n := range []int{0, 1, 15, 16, 17, 20, 36, 52, 63, 64, 65, 100, 1000, 16384} {
		l = append(l, some(i, n))
	}
	return l
}

// boxOf is what the real game seals.
func boxOf(k api.Key, n api.Nonce, plain string) string {
	return aead.Seal(k, n, "", plain)
}

// opens holds that Open tells that plain, and how many forgeries there are then.
func opens(t *testing.T, b *book.Book, k api.Key, n api.Nonce, sealed, plain string, forged int) {
	t.Helper()
	if got, ok := b.Open(k, n, sealed); !ok || got != plain || b.Forged() != forged {
		t.Fatalf("Open of %d bytes: %.40q, %v, and forged %d; not %.40q, %d", len(sealed), got, ok, b.Forged(), plain, forged)
	}
}

// refused holds that Open tells false, and nothing beside it, and how many forgeries there are then.
func refused(t *testing.T, b *book.Book, k api.Key, n api.Nonce, sealed string, forged int) {
	t.Helper()
	if got, ok := b.Open(k, n, sealed); ok || got != "" || b.Forged() != forged {
		t.Fatalf("Open of %d bytes: %.40q, %v, and forged %d; not %d", len(sealed), got, ok, b.Forged(), forged)
	}
}

// shared is a book of that game, over a tape that looks like chance, in which the keys are shared.
func shared(ideal bool, keys ...api.Key) *book.Book {
	b := book.New(ideal, tape.New(some(999, 4096)))
	for _, k := range keys {
		b.Share(k)
	}
	return b
}

// is holds whether a key is shared, and what it stands for.
func is(t *testing.T, b *book.Book, k api.Key, shared bool, fresh api.Key) {
	t.Helper()
	if b.Shared(k) != shared || b.Key(k) != fresh {
		t.Fatalf("%x: %v, %x; not %v, %x", k, b.Shared(k), b.Key(k), shared, fresh)
	}
}

func isID(t *testing.T, b *book.Book, i, fresh api.ID) {
	t.Helper()
	if b.ID(i) != fresh {
		t.Fatalf("%x: %x; not %x", i, b.ID(i), fresh)
	}
}

func used(t *testing.T, p *tape.Tape, want int) {
	t.Helper()
	if p.Used() != want {
		t.Fatalf("taken: %d; not %d", p.Used(), want)
	}
}

// The chapter's examples

func TestExampleReal(t *testing.T) {
	b := shared(false, key(1))
	opens(t, b, key(1), nonce(1), boxOf(key(1), nonce(1), "a text"), "a text", 1)
}

func TestExampleIdeal(t *testing.T) {
	b := shared(true, key(1))
	refused(t, b, key(1), nonce(1), boxOf(key(1), nonce(1), "a text"), 0)
}

func TestExampleIdealOfASeal(t *testing.T) {
	b := shared(true, key(1))
	opens(t, b, key(1), nonce(1), b.Seal(key(1), nonce(1), "a text"), "a text", 0)
}

// P14.1

func TestNewHasNothing(t *testing.T) {
	for _, ideal := range []bool{false, true} {
		p := tape.New(some(1, 1000))
		b := book.New(ideal, p)
		for _, k := range []api.Key{{}, {1}, key(1), keyAt(some(1, 32), 0)} {
			is(t, b, k, false, k)
		}
		for _, i := range []api.ID{{}, {1}, id(1)} {
			isID(t, b, i, i)
		}
		if b.Forged() != 0 {
			t.Error("forged")
		}
		used(t, p, 0)
	}
}

func TestRealKeysAreThemselves(t *testing.T) {
	p := tape.New(some(2, 1000))
	b := book.New(false, p)
	for i := range 50 {
		is(t, b, key(i), false, key(i))
		for range 3 {
			b.Share(key(i))
			b.ShareID(id(i))
			is(t, b, key(i), true, key(i))
			isID(t, b, id(i), id(i))
		}
	}
	b.Share(api.Key{})
	b.ShareID(api.ID{})
	is(t, b, api.Key{}, true, api.Key{})
	isID(t, b, api.ID{}, api.ID{})
	for i := range 50 {
		is(t, b, key(i), true, key(i))
		is(t, b, key(i+50), false, key(i+50))
		isID(t, b, id(i), id(i))
	}
	used(t, p, 0)
}

func TestIdealKeysAreFresh(t *testing.T) {
	s := some(3, 32+16+16+32+32+16)
	p := tape.New(s)
	b := book.New(true, p)
	b.Share(key(1))
	used(t, p, 32)
	b.ShareID(id(1))
	used(t, p, 48)
	b.ShareID(id(2))
	b.Share(key(2))
	b.Share(api.Key{})
	b.ShareID(api.ID{})
	used(t, p, len(s))
	for range 3 { // asking takes nothing, and changes nothing
		is(t, b, key(1), true, keyAt(s, 0))
		isID(t, b, id(1), idAt(s, 32))
		isID(t, b, id(2), idAt(s, 48))
		is(t, b, key(2), true, keyAt(s, 64))
		is(t, b, api.Key{}, true, keyAt(s, 96))
		isID(t, b, api.ID{}, idAt(s, 128))
		is(t, b, key(3), false, key(3))
		isID(t, b, id(3), id(3))
		used(t, p, len(s))
	}
}

func TestIdealSharedTwiceTakesOnce(t *testing.T) {
	s := some(4, 500)
	p := tape.New(s)
	b := book.New(true, p)
	for range 3 {
		b.Share(key(1))
		b.ShareID(id(1))
		used(t, p, 48)
		is(t, b, key(1), true, keyAt(s, 0))
		isID(t, b, id(1), idAt(s, 32))
	}
	b.Share(key(2))
	b.Share(key(1)) // others between make no difference
	b.ShareID(id(2))
	b.ShareID(id(1))
	used(t, p, 96)
	is(t, b, key(1), true, keyAt(s, 0))
	is(t, b, key(2), true, keyAt(s, 48))
	isID(t, b, id(1), idAt(s, 32))
	isID(t, b, id(2), idAt(s, 80))
}

func TestIdealFreshKeysAreNotShared(t *testing.T) {
	s := some(5, 200)
	p := tape.New(s)
	b := book.New(true, p)
	b.Share(key(1))
	b.ShareID(id(1))
	is(t, b, keyAt(s, 0), false, keyAt(s, 0))
	isID(t, b, idAt(s, 32), idAt(s, 32))
	// shared itself, the fresh one has one of its own, and the first one stands for what it did
	b.Share(keyAt(s, 0))
	b.ShareID(idAt(s, 32))
	used(t, p, 96)
	is(t, b, keyAt(s, 0), true, keyAt(s, 48))
	isID(t, b, idAt(s, 32), idAt(s, 80))
	is(t, b, key(1), true, keyAt(s, 0))
	isID(t, b, id(1), idAt(s, 32))
}

func TestIdealKeyOfTheTapeThatIsItself(t *testing.T) {
	// a fresh key that is the shared one by chance takes from the tape like any other
	s := some(1, 32) + some(1, 16) + some(6, 48)
	p := tape.New(s)
	b := book.New(true, p)
	for range 2 {
		b.Share(key(1))
		b.ShareID(id(1))
		used(t, p, 48)
		is(t, b, key(1), true, key(1))
		isID(t, b, id(1), id(1))
	}
	refused(t, b, key(1), nonce(1), boxOf(key(1), nonce(1), "text"), 0)
}

func TestIdealTapeOfOthersToo(t *testing.T) {
	// the book takes from the tape that it was handed, not from one of its own
	s := some(7, 200)
	p := tape.New(s)
	p.Take(5)
	b := book.New(true, p)
	b.Share(key(1))
	p.Take(7)
	b.ShareID(id(1))
	is(t, b, key(1), true, keyAt(s, 5))
	isID(t, b, id(1), idAt(s, 44))
	if p.Take(3) != s[60:63] {
		t.Error("taken on")
	}
}

func TestIdealTapeThatEnds(t *testing.T) {
	s := some(8, 40)
	p := tape.New(s)
	b := book.New(true, p)
	b.Share(key(1))
	b.ShareID(id(1))
	b.Share(key(2))
	b.ShareID(id(2))
	used(t, p, 96)
	is(t, b, key(1), true, keyAt(s, 0))
	isID(t, b, id(1), idAt(s[32:]+noughts(8), 0))
	is(t, b, key(2), true, api.Key{})
	isID(t, b, id(2), api.ID{})
}

func TestIdealWithoutATape(t *testing.T) {
	b := book.New(true, nil)
	b.Share(key(1))
	b.Share(key(2))
	b.ShareID(id(1))
	is(t, b, key(1), true, api.Key{})
	is(t, b, key(2), true, api.Key{})
	is(t, b, key(3), false, key(3))
	is(t, b, api.Key{}, false, api.Key{})
	isID(t, b, id(1), api.ID{})
	isID(t, b, id(2), id(2))
	// boxes under both are alike, and each one is noted of its own key alone
	x := b.Seal(key(1), nonce(1), "of one")
	if x != boxOf(api.Key{}, nonce(1), noughts(6)) {
		t.Error("not of noughts")
	}
	refused(t, b, key(2), nonce(1), x, 0)
	if b.Seal(key(2), nonce(1), "of two") != x {
		t.Error("not alike")
	}
	opens(t, b, key(1), nonce(1), x, "of one", 0)
	opens(t, b, key(2), nonce(1), x, "of two", 0)
}

func TestRealWithoutATape(t *testing.T) {
	b := book.New(false, nil)
	b.Share(key(1))
	b.ShareID(id(1))
	is(t, b, key(1), true, key(1))
	is(t, b, key(2), false, key(2))
	isID(t, b, id(1), id(1))
	opens(t, b, key(1), nonce(1), b.Seal(key(1), nonce(1), "text"), "text", 0)
}

func TestKeysAndIDsOfOneBitOff(t *testing.T) {
	for _, ideal := range []bool{false, true} {
		b := shared(ideal, key(1))
		b.ShareID(id(1))
		for bit := range 256 {
			k := keyAt(turned(some(1, 32), bit), 0)
			is(t, b, k, false, k)
		}
		for bit := range 128 {
			i := idAt(turned(some(1, 16), bit), 0)
			isID(t, b, i, i)
		}
	}
}

func TestKeysAndIDsAreTwoThings(t *testing.T) {
	b := book.New(true, tape.New(some(9, 100)))
	b.Share(api.Key{1})
	isID(t, b, api.ID{1}, api.ID{1})
	b = book.New(true, tape.New(some(9, 100)))
	b.ShareID(api.ID{1})
	is(t, b, api.Key{1}, false, api.Key{1})
}

// P14.2: Seal

func TestRealSeals(t *testing.T) {
	b := shared(false, key(1))
	for i, plain := range plains() {
		for _, k := range []api.Key{key(1), key(2)} {
			if got := b.Seal(k, nonce(i), plain); got != boxOf(k, nonce(i), plain) {
				t.Fatalf("%d: %.40x", i, got)
			}
		}
	}
}

func TestIdealSeals(t *testing.T) {
	p := tape.New(some(10, 100))
	b := book.New(true, p)
	b.Share(key(1))
	fresh := keyAt(some(10, 100), 0)
	for i, plain := range plains() {
		if got := b.Seal(key(1), nonce(i), plain); got != boxOf(fresh, nonce(i), noughts(len(plain))) {
			t.Fatalf("shared %d: %.40x", i, got)
		}
		for _, k := range []api.Key{key(2), fresh} {
			if got := b.Seal(k, nonce(i), plain); got != boxOf(k, nonce(i), plain) {
				t.Fatalf("not shared %d: %.40x", i, got)
			}
		}
	}
	used(t, p, 32)
	if b.Shared(key(2)) || b.Shared(fresh) {
		t.Error("shared by being sealed under")
	}
}

// P14.2: Open of what was sealed

func TestOpenOfASeal(t *testing.T) {
	for _, ideal := range []bool{false, true} {
		b := shared(ideal, key(1))
		for _, k := range []api.Key{key(1), key(2)} {
			var boxes []string
			for i, plain := range plains() {
				boxes = append(boxes, b.Seal(k, nonce(i), plain))
			}
			for range 2 { // opening takes nothing away
				for i, plain := range plains() {
					opens(t, b, k, nonce(i), boxes[i], plain, 0)
				}
			}
		}
	}
}

func TestOpenOfAnEmptyPlain(t *testing.T) {
	for _, ideal := range []bool{false, true} {
		b := shared(ideal, key(1))
		x := boxOf(b.Key(key(1)), nonce(1), "")
		if ideal {
			refused(t, b, key(1), nonce(1), x, 0)
		} else {
			opens(t, b, key(1), nonce(1), x, "", 1)
		}
		was := b.Forged()
		if b.Seal(key(1), nonce(1), "") != x || len(x) != 16 {
			t.Error("another box")
		}
		opens(t, b, key(1), nonce(1), x, "", was)
		refused(t, b, key(1), nonce(1), "", was)
		refused(t, b, key(1), nonce(2), x, was)
	}
}

func TestLastPlainCounts(t *testing.T) {
	b := shared(true, key(1))
	x := b.Seal(key(1), nonce(1), "four")
	for _, plain := range []string{"five", "four", noughts(4), "nine"} {
		if b.Seal(key(1), nonce(1), plain) != x {
			t.Fatal("another box", plain)
		}
		opens(t, b, key(1), nonce(1), x, plain, 0)
		opens(t, b, key(1), nonce(1), x, plain, 0)
	}
	// of another length it is another box
	y := b.Seal(key(1), nonce(1), "eleven")
	opens(t, b, key(1), nonce(1), y, "eleven", 0)
	opens(t, b, key(1), nonce(1), x, "nine", 0)
}

func TestRealSealedTwice(t *testing.T) {
	b := shared(false, key(1))
	x := b.Seal(key(1), nonce(1), "four")
	if b.Seal(key(1), nonce(1), "four") != x {
		t.Error("another box")
	}
	y := b.Seal(key(1), nonce(1), "five")
	opens(t, b, key(1), nonce(1), x, "four", 0)
	opens(t, b, key(1), nonce(1), y, "five", 0)
}

func TestOneKeyTwoNonces(t *testing.T) {
	for _, ideal := range []bool{false, true} {
		b := shared(ideal, key(1))
		x := b.Seal(key(1), nonce(1), "first")
		for bit := range 96 {
			n := api.Nonce([]byte(turned(some(1, 12), bit)))
			refused(t, b, key(1), n, x, 0)
		}
		y := b.Seal(key(1), nonce(2), "other")
		if x == y {
			t.Error("alike")
		}
		opens(t, b, key(1), nonce(1), x, "first", 0)
		opens(t, b, key(1), nonce(2), y, "other", 0)
		refused(t, b, key(1), nonce(1), y, 0)
		refused(t, b, key(1), nonce(2), x, 0)
	}
}

func TestOneKeyTwoNoncesOfOneTextAreTwoNotes(t *testing.T) {
	// what was sealed with the one nonce is a forgery with the other one
	b := shared(false, key(1))
	b.Seal(key(1), nonce(1), "text")
	opens(t, b, key(1), nonce(2), boxOf(key(1), nonce(2), "text"), "text", 1)
	b.Seal(key(1), nonce(2), "text")
	opens(t, b, key(1), nonce(2), boxOf(key(1), nonce(2), "text"), "text", 1)
}

func TestTwoKeysOneNonce(t *testing.T) {
	for _, ideal := range []bool{false, true} {
		b := shared(ideal, key(1), key(2))
		x := b.Seal(key(1), nonce(1), "first")
		refused(t, b, key(2), nonce(1), x, 0)
		y := b.Seal(key(2), nonce(1), "other")
		if x == y {
			t.Error("alike")
		}
		opens(t, b, key(1), nonce(1), x, "first", 0)
		opens(t, b, key(2), nonce(1), y, "other", 0)
		refused(t, b, key(1), nonce(1), y, 0)
		refused(t, b, key(2), nonce(1), x, 0)
		refused(t, b, key(3), nonce(1), x, 0)
	}
}

func TestRealTwoKeysOfOneTextAreTwoNotes(t *testing.T) {
	b := shared(false, key(1), key(2))
	b.Seal(key(1), nonce(1), "text")
	opens(t, b, key(2), nonce(1), boxOf(key(2), nonce(1), "text"), "text", 1)
}

func TestIdealTwoKeysOfOneFreshOne(t *testing.T) {
	fresh := some(11, 32)
	b := book.New(true, tape.New(fresh+fresh))
	b.Share(key(1))
	b.Share(key(2))
	x := b.Seal(key(1), nonce(1), "text")
	refused(t, b, key(2), nonce(1), x, 0)
	// the fresh one itself is not shared: its boxes are aead's
	opens(t, b, keyAt(fresh, 0), nonce(1), x, noughts(4), 0)
	opens(t, b, key(1), nonce(1), x, "text", 0)
}

func TestTwoBooks(t *testing.T) {
	for _, ideal := range []bool{false, true} {
		a, b := shared(ideal, key(1)), shared(ideal)
		is(t, b, key(1), false, key(1))
		a.ShareID(id(1))
		isID(t, b, id(1), id(1))
		b.Share(key(1))
		x := a.Seal(key(1), nonce(1), "text")
		opens(t, a, key(1), nonce(1), x, "text", 0)
		if ideal {
			refused(t, b, key(1), nonce(1), x, 0)
		} else {
			opens(t, b, key(1), nonce(1), x, "text", 1)
		}
		opens(t, a, key(1), nonce(1), x, "text", 0)
	}
}

// P14.2: ahead of the sharing, and behind it

func TestRealSealedAheadOfTheSharing(t *testing.T) {
	b := shared(false)
	x := b.Seal(key(1), nonce(1), "early")
	opens(t, b, key(1), nonce(1), x, "early", 0)
	b.Share(key(1))
	opens(t, b, key(1), nonce(1), x, "early", 1)
	y := b.Seal(key(1), nonce(2), "late")
	opens(t, b, key(1), nonce(2), y, "late", 1)
	opens(t, b, key(1), nonce(1), x, "early", 2)
	b.Seal(key(1), nonce(1), "early") // and is noted from here on
	opens(t, b, key(1), nonce(1), x, "early", 2)
	b.Share(key(1)) // which forgets nothing
	opens(t, b, key(1), nonce(1), x, "early", 2)
	opens(t, b, key(1), nonce(2), y, "late", 2)
}

func TestIdealSealedAheadOfTheSharing(t *testing.T) {
	b := shared(true)
	x := b.Seal(key(1), nonce(1), "early")
	opens(t, b, key(1), nonce(1), x, "early", 0)
	b.Share(key(1))
	refused(t, b, key(1), nonce(1), x, 0)
	y := b.Seal(key(1), nonce(1), "early")
	if x == y {
		t.Error("alike")
	}
	opens(t, b, key(1), nonce(1), y, "early", 0)
	refused(t, b, key(1), nonce(1), x, 0)
	b.Share(key(1))
	opens(t, b, key(1), nonce(1), y, "early", 0)
}

func TestNoughtsSealedUnderTheFreshKeyAreNoted(t *testing.T) {
	// the box is the same as one that somebody else makes who has the fresh key: which hand made it is not to be seen
	b := shared(true, key(1))
	x := boxOf(b.Key(key(1)), nonce(1), noughts(4))
	refused(t, b, key(1), nonce(1), x, 0)
	if b.Seal(key(1), nonce(1), "text") != x {
		t.Error("another box")
	}
	opens(t, b, key(1), nonce(1), x, "text", 0)
}

// P14.2: Open of what was not sealed

func TestForgeriesEachTime(t *testing.T) {
	b := shared(false, key(1))
	forged := 0
	for i, plain := range plains() {
		x := boxOf(key(1), nonce(i), plain)
		for range 3 {
			forged++
			opens(t, b, key(1), nonce(i), x, plain, forged)
		}
		b.Seal(key(1), nonce(i), plain)
		opens(t, b, key(1), nonce(i), x, plain, forged)
	}
}

func TestNoForgeriesInTheIdealGame(t *testing.T) {
	b := shared(true, key(1))
	for i, plain := range plains() {
		for _, k := range []api.Key{key(1), b.Key(key(1)), {}} {
			for range 3 {
				refused(t, b, key(1), nonce(i), boxOf(k, nonce(i), plain), 0)
			}
		}
	}
}

func TestNoForgeriesUnderAKeyThatIsNotShared(t *testing.T) {
	for _, ideal := range []bool{false, true} {
		b := shared(ideal, key(1))
		for i, plain := range plains() {
			x := boxOf(key(2), nonce(i), plain)
			opens(t, b, key(2), nonce(i), x, plain, 0)
			refused(t, b, key(1), nonce(i), x, 0)
			refused(t, b, key(2), nonce(i), turned(x, 8*len(x)-1), 0)
			refused(t, b, key(2), nonce(i), x[1:], 0)
			refused(t, b, key(2), nonce(i+100), x, 0)
		}
	}
}

// notOne holds that nothing is told of boxes near that one.
func notOne(t *testing.T, b *book.Book, k api.Key, n api.Nonce, x string, forged int) {
	t.Helper()
	for bit := range 8 * len(x) {
		refused(t, b, k, n, turned(x, bit), forged)
	}
	for c := range 256 {
		refused(t, b, k, n, x+string([]byte{byte(c)}), forged)
		refused(t, b, k, n, string([]byte{byte(c)})+x, forged)
	}
	for i := range len(x) {
		refused(t, b, k, n, x[:i], forged) // fewer than sixteen are among them
		refused(t, b, k, n, x[i+1:], forged)
	}
	refused(t, b, k, n, x+x, forged)
	refused(t, b, k, n, noughts(len(x)), forged)
}

func TestOpenNearANotedBox(t *testing.T) {
	for _, ideal := range []bool{false, true} {
		for i, plain := range []string{"", "x", "a text", noughts(16), some(1, 20)} {
			b := shared(ideal, key(1))
			x := b.Seal(key(1), nonce(i), plain)
			notOne(t, b, key(1), nonce(i), x, 0)
			opens(t, b, key(1), nonce(i), x, plain, 0)
		}
	}
}

func TestOpenNearAForgery(t *testing.T) {
	b := shared(false, key(1))
	x := boxOf(key(1), nonce(1), "a text")
	opens(t, b, key(1), nonce(1), x, "a text", 1)
	notOne(t, b, key(1), nonce(1), x, 1) // what does not open is none
	opens(t, b, key(1), nonce(1), x, "a text", 2)
}

func TestOpenOfFewBytes(t *testing.T) {
	for _, ideal := range []bool{false, true} {
		b := shared(ideal, key(1))
		b.Seal(key(1), nonce(1), "")
		for n := range 16 {
			for _, k := range []api.Key{key(1), key(2)} {
				refused(t, b, k, nonce(1), noughts(n), 0)
				refused(t, b, k, nonce(1), some(n, n), 0)
			}
		}
	}
}

func TestOpenOfTheOtherGamesBox(t *testing.T) {
	a, b := shared(false, key(1)), shared(true, key(1))
	x, y := a.Seal(key(1), nonce(1), "text"), b.Seal(key(1), nonce(1), "text")
	refused(t, a, key(1), nonce(1), y, 0)
	refused(t, b, key(1), nonce(1), x, 0)
}

// P14.3

func TestNil(t *testing.T) {
	var b *book.Book
	b.Share(key(1))
	b.ShareID(id(1))
	b.Share(api.Key{})
	b.ShareID(api.ID{})
	for _, k := range []api.Key{key(1), key(2), {}} {
		is(t, b, k, false, k)
		for i, plain := range plains() {
			x := b.Seal(k, nonce(i), plain)
			if x != boxOf(k, nonce(i), plain) {
				t.Fatal("another box", i)
			}
			opens(t, b, k, nonce(i), x, plain, 0)
			refused(t, b, k, nonce(i+100), x, 0)
			refused(t, b, k, nonce(i), x[1:], 0)
			refused(t, b, k, nonce(i), x+"x", 0)
			refused(t, b, k, nonce(i), turned(x, i), 0)
		}
		opens(t, b, k, nonce(1), boxOf(k, nonce(1), "not sealed here"), "not sealed here", 0)
		refused(t, b, k, nonce(1), "", 0)
	}
	isID(t, b, id(1), id(1))
	isID(t, b, api.ID{}, api.ID{})
	if b.Forged() != 0 {
		t.Error("forged")
	}
}

// P14.4

// seen is all that a book shows of a course of calls in which those plains are sealed under shared keys.
func seen(t *testing.T, plains []string) []string {
	t.Helper()
	b := book.New(true, tape.New(some(12, 500)))
	var l []string
	for i, plain := range plains {
		k, n := key(i%3), nonce(i%4)
		b.Share(k)
		b.ShareID(id(i % 5))
		x := b.Seal(k, n, plain)
		opens(t, b, k, n, x, plain, 0)
		fresh, name := b.Key(k), b.ID(id(i%5))
		_, turnedOK := b.Open(k, n, turned(x, 0))
		_, otherOK := b.Open(k, nonce(i%4+1), x)
		l = append(l, x, string(fresh[:]), string(name[:]), fmt.Sprint(turnedOK, otherOK, b.Forged()),
			b.Seal(key(50), n, "not under a shared key"))
	}
	return l
}

func TestWhatIsSeenDoesNotHangOnWhatWasSealed(t *testing.T) {
	want := seen(t, plains())
	for other := range 5 {
		var l []string
		for i, plain := range plains() {
			l = append(l, some(100*other+i, len(plain)))
		}
		got := seen(t, l)
		for i := range want {
			if got[i] != want[i] {
				t.Fatalf("%d: %.40x; not %.40x", i, got[i], want[i])
			}
		}
	}
	longer := plains()
	longer[3] += "x"
	got := seen(t, longer)
	for i := range want {
		if i/5 != 3 && got[i] != want[i] {
			t.Error("hangs on more than one length", i)
		}
		if i == 15 && got[i] == want[i] {
			t.Error("does not hang on the length")
		}
	}
}

// Both games, by a book that goes through a list

// slow is a book as the chapter's words have it.
type slow struct {
	ideal  bool
	tape   *tape.Tape
	keys   [][2]api.Key
	ids    [][2]api.ID
	notes  []note
	forged int
}

type note struct {
	k             api.Key
	n             api.Nonce
	sealed, plain string
}

func (s *slow) key(k api.Key) (api.Key, bool) {
	for _, x := range s.keys {
		if x[0] == k {
			return x[1], true
		}
	}
	return k, false
}

func (s *slow) id(i api.ID) (api.ID, bool) {
	for _, x := range s.ids {
		if x[0] == i {
			return x[1], true
		}
	}
	return i, false
}

func (s *slow) share(k api.Key) {
	if _, ok := s.key(k); ok {
		return
	}
	fresh := k
	if s.ideal {
		fresh = s.tape.Key()
	}
	s.keys = append(s.keys, [2]api.Key{k, fresh})
}

func (s *slow) shareID(i api.ID) {
	if _, ok := s.id(i); ok {
		return
	}
	fresh := i
	if s.ideal {
		fresh = s.tape.ID()
	}
	s.ids = append(s.ids, [2]api.ID{i, fresh})
}

func (s *slow) seal(k api.Key, n api.Nonce, plain string) string {
	fresh, ok := s.key(k)
	x := aead.Seal(k, n, "", plain)
	if s.ideal && ok {
		x = aead.Seal(fresh, n, "", noughts(len(plain)))
	}
	if ok {
		s.notes = append(s.notes, note{k, n, x, plain})
	}
	return x
}

func (s *slow) open(k api.Key, n api.Nonce, sealed string) (string, bool) {
	_, ok := s.key(k)
	plain, noted := "", false
	for _, x := range s.notes { // the last one counts
		if x.k == k && x.n == n && x.sealed == sealed {
			plain, noted = x.plain, true
		}
	}
	if s.ideal && ok {
		return plain, noted
	}
	plain, opened := aead.Open(k, n, "", sealed)
	if opened && ok && !noted {
		s.forged++
	}
	return plain, opened
}

func TestCoursesOfCalls(t *testing.T) {
	forged, opened := 0, 0
	for course := range 300 {
		r := rand.New(rand.NewPCG(1, uint64(course)))
		random := some(course, r.IntN(200)) // some end on the way
		p, q := tape.New(random), tape.New(random)
		b, s := book.New(course%2 == 1, p), &slow{ideal: course%2 == 1, tape: q}
		keys := []api.Key{{}, {1}, key(1), key(2), keyAt(random+noughts(32), 0)}
		ids := []api.ID{{}, {1}, id(1), id(2)}
		boxes := []string{"", noughts(16), some(1, 20)}
		for range 200 {
			k, i, n := keys[r.IntN(len(keys))], ids[r.IntN(len(ids))], nonce(r.IntN(2))
			switch r.IntN(12) {
			case 0:
				b.Share(k)
				s.share(k)
			case 1:
				b.ShareID(i)
				s.shareID(i)
			case 2, 3, 4:
				plain := some(r.IntN(3), r.IntN(3))
				x, want := b.Seal(k, n, plain), s.seal(k, n, plain)
				if x != want {
					t.Fatalf("course %d: Seal: %x; not %x", course, x, want)
				}
				boxes = append(boxes, x)
			case 5: // somebody else's
				boxes = append(boxes, aead.Seal(k, n, "", some(r.IntN(3), r.IntN(3))))
			case 6:
				x := boxes[r.IntN(len(boxes))] + "x"
				boxes = append(boxes, turned(x, r.IntN(8*len(x))))
			default:
				x := boxes[r.IntN(len(boxes))]
				got, ok := b.Open(k, n, x)
				want, fine := s.open(k, n, x)
				if got != want || ok != fine {
					t.Fatalf("course %d: Open: %x, %v; not %x, %v", course, got, ok, want, fine)
				}
				if ok {
					opened++
				}
			}
			fresh, ok := s.key(k)
			name, _ := s.id(i)
			if b.Shared(k) != ok || b.Key(k) != fresh || b.ID(i) != name || b.Forged() != s.forged || p.Used() != q.Used() {
				t.Fatalf("course %d: %v, %x, %x, %d, %d", course, b.Shared(k), b.Key(k), b.ID(i), b.Forged(), p.Used())
			}
		}
		forged += s.forged
	}
	if forged < 100 || opened < 1000 {
		t.Error("the courses met too little:", forged, opened)
	}
}

func TestManyKeysAndBoxes(t *testing.T) {
	for _, ideal := range []bool{false, true} {
		p := tape.New(some(13, 32*300))
		b := book.New(ideal, p)
		var boxes []string
		for i := range 300 {
			b.Share(key(i))
			boxes = append(boxes, b.Seal(key(i), nonce(i%7), some(i, 20)))
		}
		for i, x := range boxes {
			opens(t, b, key(i), nonce(i%7), x, some(i, 20), 0)
			if ideal {
				is(t, b, key(i), true, keyAt(some(13, 32*300), 32*i))
			}
		}
	}
}

// What holds in every layer

// apart tells if two texts share no memory.
// Texts of one byte are left out: Go has them all ready in a table that is never written.
func apart(a, b string) bool {
	if len(a) < 2 || len(b) < 2 {
		return true
	}
	x, y := uintptr(unsafe.Pointer(unsafe.StringData(a))), uintptr(unsafe.Pointer(unsafe.StringData(b)))
	return x+uintptr(len(a)) <= y || y+uintptr(len(b)) <= x
}

func TestWhatIsToldIsNewMemory(t *testing.T) {
	for _, b := range []*book.Book{shared(false, key(1)), shared(true, key(1)), nil} {
		for _, k := range []api.Key{key(1), key(2)} {
			for i, plain := range plains() {
				x, y := b.Seal(k, nonce(i), plain), b.Seal(k, nonce(i), plain)
				p, _ := b.Open(k, nonce(i), x)
				q, _ := b.Open(k, nonce(i), x)
				l := []string{plain, x, y, p, q}
				for j := range l {
					for m := range j {
						if !apart(l[j], l[m]) {
							t.Fatal(i, j, m, "share memory")
						}
					}
				}
			}
		}
	}
}

func TestWhatIsHandedInIsNotChangedAndNotKept(t *testing.T) {
	for _, ideal := range []bool{false, true} {
		for n := 1; n < 100; n++ {
			b := shared(ideal, key(1))
			plain := []byte(some(n, n) + "spare")
			x := b.Seal(key(1), nonce(1), unsafe.String(&plain[0], n))
			if string(plain) != some(n, n)+"spare" {
				t.Fatal("changed")
			}
			clear(plain)
			in := []byte(x + "spare")
			got, ok := b.Open(key(1), nonce(1), unsafe.String(&in[0], len(x)))
			if string(in) != x+"spare" {
				t.Fatal("changed")
			}
			clear(in)
			if got != some(n, n) || !ok || b.Forged() != 0 {
				t.Fatal("kept")
			}
			opens(t, b, key(1), nonce(1), x, some(n, n), 0)
		}
	}
}

func TestAskingChangesNothing(t *testing.T) {
	for _, ideal := range []bool{false, true} {
		p := tape.New(some(14, 100))
		b := book.New(ideal, p)
		b.Share(key(1))
		x := b.Seal(key(1), nonce(1), "text")
		taken := p.Used()
		for i := range 50 {
			b.Shared(key(i))
			b.Key(key(i))
			b.ID(id(i))
			b.Forged()
			b.Open(key(1), nonce(i), some(i, i))
			b.Open(key(i), nonce(1), x)
		}
		used(t, p, taken)
		for i := 2; i < 50; i++ {
			is(t, b, key(i), false, key(i))
			isID(t, b, id(i), id(i))
		}
		opens(t, b, key(1), nonce(1), x, "text", 0)
	}
}
