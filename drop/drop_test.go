package drop_test

import (
	"crypto/sha256"
	"fmt"
	"math/rand/v2"
	"slices"
	"strings"
	"testing"
	"unsafe"

	"billet/api"
	"billet/drop"
	"billet/wire"
)

// some is n bytes that look like chance, the same for the same seed.
func some(seed, n int) string {
	var b []byte
	for i := 0; len(b) < n; i++ {
		h := sha256.Sum256(fmt.Append(nil, seed, i))
		b = append(b, h[:]...)
	}
	return string(b[:n])
}

func nought(n int) string {
	return strings.Repeat("\x00", n)
}

// name is the ID of a number.
func name(n int) string {
	return some(n, 16)
}

// box is that of a number, never noughts.
func box(n int) string {
	return some(-1-n, 36)
}

// ask is a request: a name's number, and a box's.
func ask(id, b int) string {
	return name(id) + box(b)
}

// sizes are those that no request has; some are 52 but for their high bits.
var sizes = []int{0, 1, 15, 16, 17, 35, 36, 50, 51, 53, 54, 68, 104, 255, 256, 256 + 52, 65536, 65536 + 52}

// sized is a request's bytes cut, or with others behind them.
func sized(request string, n int) string {
	if n <= len(request) {
		return request[:n]
	}
	return request + some(n, n-len(request))
}

// plainMatch holds each request against each other one.
func plainMatch(requests []string) []string {
	l := make([]string, len(requests))
	for i, r := range requests {
		l[i] = nought(36)
		var others []string
		for k, s := range requests {
			if k != i && len(r) == 52 && len(s) == 52 && r[:16] == s[:16] {
				others = append(others, s[16:])
			}
		}
		if len(others) == 1 {
			l[i] = others[0]
		}
	}
	return l
}

// plainCount counts behind the first one of each ID.
func plainCount(requests []string) [3]int {
	var counts [3]int
	for i, r := range requests {
		if len(r) != 52 {
			continue
		}
		bear, first := 0, true
		for k, s := range requests {
			if len(s) == 52 && r[:16] == s[:16] {
				bear++
				first = first && k >= i
			}
		}
		if first {
			counts[min(bear, 3)-1]++
		}
	}
	return counts
}

func matches(t *testing.T, requests, want []string) {
	t.Helper()
	got := drop.Match(requests...)
	if len(got) != len(requests) || !slices.Equal(got, want) {
		t.Fatalf("Match of %d, %.150q: %.150q (%d); not %.150q (%d)", len(requests), requests, got, len(got), want, len(want))
	}
}

func counts(t *testing.T, requests []string, want [3]int) {
	t.Helper()
	if ones, twos, more := drop.Count(requests...); [3]int{ones, twos, more} != want {
		t.Fatalf("Count of %d, %.150q: %d, %d, %d; not %d", len(requests), requests, ones, twos, more, want)
	}
}

// asThePlain holds both calls against what is held one by one.
func asThePlain(t *testing.T, requests []string) {
	t.Helper()
	matches(t, requests, plainMatch(requests))
	counts(t, requests, plainCount(requests))
}

// row is requests by letters: each a name, and the boxes are numbered from 1 on in their row;
// a - is one of another size, that begins as a request of the name a does.
func row(letters string) []string {
	var l []string
	for i, c := range letters {
		if c == '-' {
			l = append(l, sized(ask('a', i+1), sizes[i%len(sizes)]))
		} else {
			l = append(l, ask(int(c), i+1))
		}
	}
	return l
}

// told are boxes by their numbers; 0: noughts.
func told(numbers ...int) []string {
	var l []string
	for _, n := range numbers {
		if n == 0 {
			l = append(l, nought(36))
		} else {
			l = append(l, box(n))
		}
	}
	return l
}

// P17.1

func TestByHand(t *testing.T) {
	for _, x := range []struct {
		letters string
		boxes   []int
		counts  [3]int
	}{
		{"", nil, [3]int{}},
		{"a", []int{0}, [3]int{1}},
		{"aa", []int{2, 1}, [3]int{0, 1}},
		{"ab", []int{0, 0}, [3]int{2}},
		{"aaa", []int{0, 0, 0}, [3]int{0, 0, 1}},
		{"aaaa", []int{0, 0, 0, 0}, [3]int{0, 0, 1}}, // not two pairs
		{"aaaaa", []int{0, 0, 0, 0, 0}, [3]int{0, 0, 1}},
		{"aab", []int{2, 1, 0}, [3]int{1, 1}},
		{"aba", []int{3, 0, 1}, [3]int{1, 1}},
		{"baa", []int{0, 3, 2}, [3]int{1, 1}},
		{"abc", []int{0, 0, 0}, [3]int{3}},
		{"aabb", []int{2, 1, 4, 3}, [3]int{0, 2}},
		{"abab", []int{3, 4, 1, 2}, [3]int{0, 2}},
		{"abba", []int{4, 3, 2, 1}, [3]int{0, 2}},
		{"abbab", []int{4, 0, 0, 1, 0}, [3]int{0, 1, 1}},
		{"aabab", []int{0, 0, 5, 0, 3}, [3]int{0, 1, 1}},
		{"aaabbb", []int{0, 0, 0, 0, 0, 0}, [3]int{0, 0, 2}},
		{"aaaabbc", []int{0, 0, 0, 0, 6, 5, 0}, [3]int{1, 1, 1}},
		{"abcddcba", []int{8, 7, 6, 5, 4, 3, 2, 1}, [3]int{0, 4}},
		{"-", []int{0}, [3]int{}},
		{"--", []int{0, 0}, [3]int{}},
		{"-a", []int{0, 0}, [3]int{1}},
		{"a-a", []int{3, 0, 1}, [3]int{0, 1}},
		{"-a--a-", []int{0, 5, 0, 0, 2, 0}, [3]int{0, 1}},
		{"a-ba-b", []int{4, 0, 6, 1, 0, 3}, [3]int{0, 2}},
		{"aa-a", []int{0, 0, 0, 0}, [3]int{0, 0, 1}},
	} {
		matches(t, row(x.letters), told(x.boxes...))
		counts(t, row(x.letters), x.counts)
	}
}

func TestWrittenOut(t *testing.T) {
	l := []string{
		"sixteen bytes, a" + "the first one's box has 36 bytes, so",
		"another one's id" + "the second one's has as many as that",
		"sixteen bytes, a" + "and the third one's is like the rest",
	}
	matches(t, l, []string{"and the third one's is like the rest", nought(36), "the first one's box has 36 bytes, so"})
	counts(t, l, [3]int{1, 1, 0})
}

func TestOfNone(t *testing.T) {
	matches(t, nil, nil)
	matches(t, []string{}, nil)
	counts(t, nil, [3]int{})
	counts(t, []string{}, [3]int{})
}

// rowsOf are all rows of n of the letters.
func rowsOf(n int, letters string) []string {
	if n == 0 {
		return []string{""}
	}
	var l []string
	for _, s := range rowsOf(n-1, letters) {
		for _, c := range letters {
			l = append(l, s+string(c))
		}
	}
	return l
}

func TestAllShortRows(t *testing.T) {
	for n := range 8 {
		for _, letters := range rowsOf(n, "ab-") {
			asThePlain(t, row(letters))
		}
	}
	for n := range 7 {
		for _, letters := range rowsOf(n, "abc-") {
			asThePlain(t, row(letters))
		}
	}
}

func TestAPairAtAnyTwoPlaces(t *testing.T) {
	for _, n := range []int{2, 3, 5, api.MaxBatch, api.MaxBatch + 1} {
		for a := range n {
			for b := range a {
				l, want := make([]string, n), slices.Repeat([]string{nought(36)}, n)
				for i := range l {
					l[i] = ask(i, i)
				}
				l[a] = ask(b, a)
				want[a], want[b] = box(b), box(a)
				matches(t, l, want)
				counts(t, l, [3]int{n - 2, 1, 0})
			}
		}
	}
}

func TestOneIDOfSoMany(t *testing.T) {
	for n := range 300 {
		l := make([]string, n)
		for i := range l {
			l[i] = ask(1, i)
		}
		want := slices.Repeat([]string{nought(36)}, n)
		if n == 2 {
			want = told(1, 0)
			want[1] = box(0)
		}
		matches(t, l, want)
		var c [3]int
		if n > 0 {
			c[min(n, 3)-1] = 1
		}
		counts(t, l, c)
	}
	for _, n := range []int{256, 257, 258, 65536, 65537, 65538} { // 0, 1, 2 in their low bits
		counts(t, slices.Repeat([]string{ask(1, 1)}, n), [3]int{0, 0, 1})
		matches(t, slices.Repeat([]string{ask(1, 1)}, n), slices.Repeat([]string{nought(36)}, n))
	}
}

// P17.1: what has another size

func TestWhatHasAnotherSizeAlone(t *testing.T) {
	for _, n := range sizes {
		for how := range 5 {
			var l []string
			for i := range how {
				l = append(l, sized(ask(1, i), n))
			}
			matches(t, l, slices.Repeat([]string{nought(36)}, how))
			counts(t, l, [3]int{})
			matches(t, slices.Repeat([]string{sized(ask(1, 1), n)}, how), slices.Repeat([]string{nought(36)}, how))
			counts(t, slices.Repeat([]string{sized(ask(1, 1), n)}, how), [3]int{})
		}
	}
	for n := range 400 {
		if n != api.RequestSize {
			matches(t, []string{nought(n), nought(n)}, told(0, 0))
			counts(t, []string{nought(n), nought(n)}, [3]int{})
		}
	}
}

func TestWhatHasAnotherSizeBesideOnesThatHaveIt(t *testing.T) {
	for _, n := range sizes {
		for requests := range 5 {
			for at := range requests + 1 {
				var l, want []string
				for i := range requests {
					l = append(l, ask(1, i))
					want = append(want, nought(36))
				}
				if requests == 2 {
					want = []string{box(1), box(0)}
				}
				l = slices.Insert(l, at, sized(ask(1, 9), n))
				want = slices.Insert(want, at, nought(36))
				matches(t, l, want)
				asThePlain(t, l)
				l = append(l, l[at]) // a second one
				matches(t, l, append(want, nought(36)))
				asThePlain(t, l)
			}
		}
	}
}

func TestWhatBearsNoIDIsNotOneOfNoughts(t *testing.T) {
	// what can't be parted has an ID of noughts, and an empty box, for who doesn't ask
	zero := nought(16) + box(1)
	for _, n := range sizes {
		other := sized(ask(1, 2), n)
		matches(t, []string{zero, other}, told(0, 0))
		counts(t, []string{zero, other}, [3]int{1, 0, 0})
		matches(t, []string{other, zero, nought(16) + box(3)}, told(0, 3, 1))
		counts(t, []string{other, zero, nought(16) + box(3)}, [3]int{0, 1, 0})
		matches(t, []string{nought(n), zero, nought(n)}, told(0, 0, 0))
		counts(t, []string{nought(n), zero, nought(n)}, [3]int{1, 0, 0})
	}
}

// P17.1: requests that are alike

func TestRequestsThatAreAlike(t *testing.T) {
	a, b := ask(1, 1), ask(2, 2)
	matches(t, []string{a, a}, told(1, 1))
	counts(t, []string{a, a}, [3]int{0, 1, 0})
	matches(t, []string{a, strings.Clone(a)}, told(1, 1))
	matches(t, []string{a, b, a}, told(1, 0, 1))
	counts(t, []string{a, b, a}, [3]int{1, 1, 0})
	matches(t, []string{a, b, b, a}, told(1, 2, 2, 1))
	counts(t, []string{a, b, b, a}, [3]int{0, 2, 0})
	matches(t, []string{a, a, a}, told(0, 0, 0))
	counts(t, []string{a, a, a}, [3]int{0, 0, 1})
	matches(t, []string{a, a, ask(1, 2)}, told(0, 0, 0)) // of two unlike ones one counts twice
	counts(t, []string{a, a, ask(1, 2)}, [3]int{0, 0, 1})
}

// P17.1: boxes

func TestBoxesOfNoughts(t *testing.T) {
	zero := name(1) + nought(36)
	matches(t, []string{zero, zero}, told(0, 0))
	counts(t, []string{zero, zero}, [3]int{0, 1, 0})
	matches(t, []string{zero, ask(1, 5)}, told(5, 0))
	matches(t, []string{ask(1, 5), zero}, told(0, 5))
	counts(t, []string{ask(1, 5), zero}, [3]int{0, 1, 0})
	matches(t, []string{ask(1, 5), zero, ask(1, 6)}, told(0, 0, 0))
	counts(t, []string{ask(1, 5), zero, ask(1, 6)}, [3]int{0, 0, 1})
	matches(t, []string{zero, zero, ask(1, 6)}, told(0, 0, 0))
	counts(t, []string{zero, zero, zero}, [3]int{0, 0, 1})
	all := nought(52)
	matches(t, []string{all}, told(0))
	counts(t, []string{all}, [3]int{1, 0, 0})
	counts(t, []string{all, all}, [3]int{0, 1, 0})
	counts(t, []string{all, all, all}, [3]int{0, 0, 1})
}

func TestBoxesThatAreAlikeUnderNamesThatAreNot(t *testing.T) {
	l := []string{ask(1, 7), ask(2, 7), ask(3, 7)}
	matches(t, l, told(0, 0, 0))
	counts(t, l, [3]int{3, 0, 0})
	l = []string{name(1) + name(2) + box(1)[:20], name(2) + name(1) + box(1)[:20]} // a box begins as another one's name
	matches(t, l, told(0, 0))
	counts(t, l, [3]int{2, 0, 0})
}

func TestEachByteOfABoxIsTold(t *testing.T) {
	for at := range api.BoxSize {
		for v := range 256 {
			b := []byte(nought(36))
			b[at] = byte(v)
			matches(t, []string{name(1) + string(b), ask(1, 3)}, []string{box(3), string(b)})
		}
	}
	for _, b := range []string{strings.Repeat("\xff", 36), "\x01" + nought(35), nought(35) + "\x01", strings.Repeat("ü", 18)} {
		matches(t, []string{ask(1, 3), name(1) + b}, []string{b, box(3)})
	}
}

// P17.1: names

func TestNamesWithOneBitUnlike(t *testing.T) {
	for _, id := range []string{nought(16), strings.Repeat("\xff", 16), name(1)} {
		for bit := range 128 {
			b := []byte(id)
			b[bit/8] ^= 1 << (bit % 8)
			x, y := id+box(1), string(b)+box(2)
			matches(t, []string{x, y}, told(0, 0))
			counts(t, []string{x, y}, [3]int{2, 0, 0})
			matches(t, []string{x, y, id + box(3)}, told(3, 0, 1))
			counts(t, []string{x, y, id + box(3)}, [3]int{1, 1, 0})
			matches(t, []string{x, y, string(b) + box(4), id + box(3)}, told(3, 4, 2, 1))
			counts(t, []string{x, y, string(b) + box(4), id + box(3)}, [3]int{0, 2, 0})
		}
	}
}

func TestNamesOfAnyBytes(t *testing.T) {
	for _, id := range []string{nought(16), strings.Repeat("\xff", 16), "\x00" + some(1, 15), some(1, 15) + "\x00", strings.Repeat("a", 16)} {
		matches(t, []string{id + box(1), ask(1, 9), id + box(2)}, told(2, 0, 1))
		counts(t, []string{id + box(1), ask(1, 9), id + box(2)}, [3]int{1, 1, 0})
		counts(t, []string{id + box(1), ask(1, 9)}, [3]int{2, 0, 0})
	}
}

// Many

// chance is n requests of names that some have in common, some of another size.
func chance(seed uint64, n, names int) []string {
	r := rand.New(rand.NewPCG(seed, 7))
	l := make([]string, n)
	for i := range l {
		l[i] = ask(r.IntN(names), r.IntN(n))
		if r.IntN(10) == 0 {
			l[i] = sized(l[i], sizes[r.IntN(len(sizes)-2)]) // not the greatest
		}
	}
	return l
}

func TestRowsByChance(t *testing.T) {
	for seed := range uint64(300) {
		n := int(seed) % 70
		asThePlain(t, chance(seed, n, 1+n/int(1+seed%3)))
	}
	asThePlain(t, chance(1, 1500, 700))
}

func TestARowOfMany(t *testing.T) {
	const n = 1 << 18
	// pairs lie about the row's middle; each tenth of the first half has none, each eleventh a third one behind the end
	boxOf := func(i int) string { return fmt.Sprintf("%036d", i) }
	nameOf := func(i int) string { return fmt.Sprintf("%016d", i) }
	l, want := make([]string, n), slices.Repeat([]string{nought(36)}, n)
	var c [3]int
	for i := range n / 2 {
		k := n - 1 - i
		l[i], l[k] = nameOf(i)+boxOf(i), nameOf(i)+boxOf(k)
		switch {
		case i%10 == 0:
			l[k] = "none" + l[k]
			c[0]++
		case i%11 == 0:
			l = append(l, nameOf(i)+boxOf(i))
			want = append(want, nought(36))
			c[2]++
		default:
			want[i], want[k] = boxOf(k), boxOf(i)
			c[1]++
		}
	}
	matches(t, l, want)
	counts(t, l, c)
}

// P17.2

// seeds are rows that have pairs, ones, more, and what is of another size.
func seeds() [][]string {
	var all [][]string
	for _, letters := range []string{"aa", "abcab", "aabbccc", "a-b-a", "abcdefghgfed", "aaaabb", "-a-"} {
		all = append(all, row(letters))
	}
	for seed := range uint64(40) {
		all = append(all, chance(seed, 50, 25))
	}
	return all
}

func TestBoxesChangePlacesInPairs(t *testing.T) {
	for i, l := range seeds() {
		got := drop.Match(l...)
		_, twos, _ := drop.Count(l...)
		bore, tells := 0, 0
		for k, s := range l {
			if got[k] == nought(36) {
				continue
			}
			tells++
			for m, other := range l {
				if m != k && len(other) == 52 && other[:16] == s[:16] {
					bore++
					if got[k] != other[16:] || got[m] != s[16:] {
						t.Fatal(i, k, m)
					}
				}
			}
		}
		if tells != 2*twos || bore != tells {
			t.Fatal(i, tells, bore, twos)
		}
	}
}

func TestTwiceIsBack(t *testing.T) {
	for i, l := range seeds() {
		boxes := drop.Match(l...)
		moved := slices.Clone(l)
		for k, s := range l {
			if len(s) == 52 {
				moved[k] = s[:16] + boxes[k]
			}
		}
		for k, b := range drop.Match(moved...) {
			if boxes[k] != nought(36) && b != l[k][16:] || boxes[k] == nought(36) && b != nought(36) {
				t.Fatal(i, k)
			}
		}
	}
}

func TestABoxIsToldToNobodyElse(t *testing.T) {
	for i, l := range seeds() {
		was, count := drop.Match(l...), plainCount(l)
		for k, s := range l {
			if len(s) != 52 {
				continue
			}
			other := slices.Clone(l)
			other[k] = s[:16] + box(10000)
			for m, b := range drop.Match(other...) {
				partner := m != k && was[m] != nought(36) && l[m][:16] == s[:16]
				if partner && b != box(10000) || !partner && b != was[m] {
					t.Fatal(i, k, m)
				}
			}
			counts(t, other, count)
		}
	}
}

func TestTheAnswersRowIsTheRequestsRow(t *testing.T) {
	for i, l := range seeds() {
		was, count := drop.Match(l...), plainCount(l)
		r := rand.New(rand.NewPCG(uint64(i), 1))
		for range 10 {
			places := r.Perm(len(l))
			moved, want := make([]string, len(l)), make([]string, len(l))
			for k, p := range places {
				moved[k], want[k] = l[p], was[p]
			}
			matches(t, moved, want)
			counts(t, moved, count)
		}
	}
}

func TestWhatBearsAnotherNameChangesNothing(t *testing.T) {
	for _, l := range seeds() {
		was, count := drop.Match(l...), plainCount(l)
		for at := range len(l) + 1 {
			for more := 1; more <= 3; more++ {
				longer, want := slices.Clone(l), slices.Clone(was)
				for k := range more {
					longer = slices.Insert(longer, at, ask(5000, k))
					want = slices.Insert(want, at, nought(36))
				}
				if more == 2 {
					want[at], want[at+1] = box(0), box(1)
				}
				matches(t, longer, want)
				c := count
				c[more-1]++
				counts(t, longer, c)
			}
		}
	}
}

func TestOnlyWhatHasTheSizeIsCounted(t *testing.T) {
	for i, l := range seeds() {
		var good, want []string
		was := drop.Match(l...)
		for k, s := range l {
			if len(s) == 52 {
				good = append(good, s)
				want = append(want, was[k])
			} else if was[k] != nought(36) {
				t.Fatal(i, k)
			}
		}
		matches(t, good, want)
		counts(t, good, plainCount(l))
		if ones, twos, _ := drop.Count(l...); ones+2*twos > len(good) {
			t.Fatal(i, ones, twos)
		}
	}
}

func TestOfRequestsThatWireMakes(t *testing.T) {
	for seed := range 50 {
		id, other := api.ID([]byte(name(seed))), api.ID([]byte(name(seed+1)))
		a, _ := wire.Request(id, box(1))
		b, _ := wire.Request(id, box(2))
		c, _ := wire.Request(other, box(3))
		matches(t, []string{a, c, b}, told(2, 0, 1))
		counts(t, []string{a, c, b}, [3]int{1, 1, 0})
	}
}

// Rules that hold everywhere

// spoil writes over a list, its spare room too.
func spoil(l []string, x string) {
	l = l[:cap(l)]
	for i := range l {
		l[i] = x
	}
}

func TestWhatIsHandedInIsAsItWas(t *testing.T) {
	for i, was := range seeds() {
		spare := []string{ask('a', 1), "spare", ask('b', 1)}
		room := append(slices.Clone(was), spare...)
		n := len(was)
		matches(t, room[:n], plainMatch(was)) // what lies in the spare room counts for nothing
		counts(t, room[:n], plainCount(was))
		matches(t, room[n:n], nil)
		if !slices.Equal(room[:n], was) || !slices.Equal(room[n:n+3], spare) {
			t.Fatal(i, "changed")
		}
	}
}

func TestListsThatAreToldAreNewMemory(t *testing.T) {
	for i, was := range seeds() {
		l := slices.Clone(was)
		want := plainMatch(l)
		a, b := drop.Match(l...), drop.Match(l...)
		spoil(a, "spoilt")
		if !slices.Equal(l, was) || !slices.Equal(b, want) {
			t.Fatal(i, "shared")
		}
		spoil(l, "spoilt")
		if !slices.Equal(b, want) {
			t.Fatal(i, "shared with what was handed in")
		}
		matches(t, was, want)
	}
}

// apart tells if two texts have no byte in one place of memory.
func apart(a, b string) bool {
	if a == "" || b == "" {
		return true
	}
	x, y := uintptr(unsafe.Pointer(unsafe.StringData(a))), uintptr(unsafe.Pointer(unsafe.StringData(b)))
	return x+uintptr(len(a)) <= y || y+uintptr(len(b)) <= x
}

func TestBoxesThatAreToldAreNewMemory(t *testing.T) {
	for i, l := range seeds() {
		for k := range l {
			l[k] = strings.Clone(l[k])
		}
		all := slices.Concat(l, drop.Match(l...), drop.Match(l...))
		for k, a := range all {
			for _, b := range all[:k] {
				if !apart(a, b) {
					t.Fatalf("%d: %.60q and %.60q share memory", i, a, b)
				}
			}
		}
	}
}

func TestTextsHandedInAreAsTheyWereAndNotKept(t *testing.T) {
	for i, was := range seeds() {
		want := plainMatch(was)
		var bytes [][]byte
		var l []string
		for _, s := range was {
			b := []byte(s + "spare")
			bytes = append(bytes, b)
			l = append(l, unsafe.String(&b[0], len(s)))
		}
		got := drop.Match(l...)
		drop.Count(l...)
		for k, b := range bytes {
			if string(b) != was[k]+"spare" {
				t.Fatal(i, k, "changed")
			}
			clear(b)
		}
		if !slices.Equal(got, want) {
			t.Fatal(i, "shared")
		}
		matches(t, was, want)
	}
}

func TestAnswersHangOnTheArgumentsAlone(t *testing.T) {
	l := append(chance(3, 60, 30), row("abcabd")...)
	want, count := plainMatch(l), plainCount(l)
	for i := range 200 {
		matches(t, l, want)
		counts(t, l, count)
		drop.Match(chance(uint64(i), i, 20)...) // its names are those of l, in part
		drop.Count(chance(uint64(i), i, 20)...)
		drop.Match(l[:i%len(l)]...)
	}
}
