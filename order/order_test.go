package order_test

import (
	"crypto/sha256"
	"fmt"
	"math"
	"slices"
	"strconv"
	"strings"
	"testing"

	"billet/api"
	"billet/order"
	"billet/tape"
)

// some is n bytes that look like chance, the same for the same seed.
func some(seed, n int) string {
	var b []byte
	for i := 0; len(b) < n; i++ {
		h := sha256.Sum256(fmt.Append(nil, seed, i))
		b = append(b, h[:]...)
	}
	return string(b[:n])
}

// pairs is numbers, two bytes each, the lowest first.
func pairs(l ...int) string {
	var b []byte
	for _, v := range l {
		b = append(b, byte(v), byte(v>>8))
	}
	return string(b)
}

// limit is how many of the 65,536 pairs are not refused in a draw of n.
func limit(n int) int {
	return 65536 / n * n
}

// far are numbers that are too great or too small for all; many are such as may be but for their high bits.
func far() []int {
	return []int{-1, -2, -16, -64, -65536, math.MinInt32, math.MinInt + 1, math.MinInt + 2, math.MinInt, 1 << 16, 1<<16 + 1, 1<<16 + 2,
		math.MaxInt32, 1 << 32, 1<<32 + 1, 1<<32 + 2, 1<<32 + 4, 1 << 62, 1<<62 + 2, math.MaxInt - 1, math.MaxInt}
}

// drawn is what a shuffle of n draws of a tape of s, and how many bytes it takes; nil: a draw's tries are used up.
func drawn(s string, n, tries int) (js []int, used int) {
	js = []int{}
	for most := n; most > 1; most-- {
		j := -1
		for try := 0; try < tries && j < 0; try++ {
			v := 0
			for k := range 2 {
				if used < len(s) {
					v += int(s[used]) << (8 * k)
				}
				used++
			}
			if v < limit(most) {
				j = v % most
			}
		}
		if j < 0 {
			return nil, used
		}
		js = append(js, j)
	}
	return js, used
}

// cameTo is the row that changes of places with js, the last place first, leave: of each place it is asked
// from the last change back to the first one where its number came from.
func cameTo(js []int, n int) []int {
	l := make([]int, n)
	for place := range l {
		from := place
		for k := n - 2; k >= 0; k-- {
			i, j := n-1-k, js[k]
			switch from {
			case i:
				from = j
			case j:
				from = i
			}
		}
		l[place] = from
	}
	return l
}

// shuffles asks for a shuffle of a tape of s and holds what it answers, and what it takes.
func shuffles(t *testing.T, s string, n, tries int, want []int, e api.Errno, used int) {
	t.Helper()
	p := tape.New(s)
	got, f := order.Shuffle(p, n, tries)
	if !slices.Equal(got, want) || f != e || p.Used() != used {
		t.Fatalf("%.20q: Shuffle(%d, %d): %v, %d, Used %d; not %v, %d, %d", s, n, tries, got, f, p.Used(), want, e, used)
	}
}

// asThePlain holds a shuffle against what the chapter's words lead to.
func asThePlain(t *testing.T, s string, n, tries int) {
	t.Helper()
	js, used := drawn(s, n, tries)
	if js == nil {
		shuffles(t, s, n, tries, nil, api.ErrCap, used)
	} else {
		shuffles(t, s, n, tries, cameTo(js, n), api.OK, used)
	}
}

// isOrder tells if l is an order: sorted, it is its places.
func isOrder(l []int) bool {
	for i, n := range slices.Sorted(slices.Values(l)) {
		if i != n {
			return false
		}
	}
	return true
}

// ordersOf are all orders of n numbers.
func ordersOf(n int) [][]int {
	if n == 0 {
		return [][]int{{}}
	}
	var all [][]int
	for _, l := range ordersOf(n - 1) {
		for at := range n {
			all = append(all, slices.Insert(slices.Clone(l), at, n-1))
		}
	}
	return all
}

// rowsOf are all rows of n numbers from least to most.
func rowsOf(n, least, most int) [][]int {
	if n == 0 {
		return [][]int{{}}
	}
	var all [][]int
	for _, l := range rowsOf(n-1, least, most) {
		for m := least; m <= most; m++ {
			all = append(all, append(slices.Clone(l), m))
		}
	}
	return all
}

// great is an order of n, of which its bytes look like chance.
func great(seed, n int) []int {
	s := some(seed, 8*n)
	l := []int{}
	for i := range n {
		l = append(l, i)
	}
	slices.SortStableFunc(l, func(a, b int) int { return strings.Compare(s[8*a:8*a+8], s[8*b:8*b+8]) })
	return l
}

// orders are all of few, and some of more.
func orders() [][]int {
	var all [][]int
	for n := range 7 {
		all = append(all, ordersOf(n)...)
	}
	for n := 7; n <= 130; n++ {
		all = append(all, great(n, n))
	}
	return append(all, great(1, 1000), great(2, 70000))
}

// named is n items, of which no two are alike.
func named(n int) []string {
	var l []string
	for i := range n {
		l = append(l, "item "+strconv.Itoa(i))
	}
	return l
}

// none holds that neither call takes l, whatever the items.
func none(t *testing.T, l []int) {
	t.Helper()
	if got, ok := order.Inverse(l); ok || len(got) != 0 {
		t.Errorf("Inverse(%.200v): %.200v, %v", fmt.Sprint(l), fmt.Sprint(got), ok)
	}
	for _, n := range []int{len(l), len(l) + 1, max(len(l)-1, 0)} {
		if got, ok := order.Lay(l, named(n)...); ok || len(got) != 0 {
			t.Errorf("Lay(%.200v) of %d: %.200v, %v", fmt.Sprint(l), n, fmt.Sprint(got), ok)
		}
	}
}

// P11.1: what it answers

func TestShuffleByHand(t *testing.T) {
	for _, x := range []struct {
		js, want []int
	}{
		{[]int{0}, []int{1, 0}},
		{[]int{1}, []int{0, 1}},
		{[]int{0, 0}, []int{1, 2, 0}}, // 2 1 0, 1 2 0: the last place first
		{[]int{0, 1}, []int{2, 1, 0}},
		{[]int{1, 0}, []int{2, 0, 1}},
		{[]int{1, 1}, []int{0, 2, 1}},
		{[]int{2, 0}, []int{1, 0, 2}},
		{[]int{2, 1}, []int{0, 1, 2}}, // each stays where it is
		{[]int{3, 2, 1}, []int{0, 1, 2, 3}},
		{[]int{0, 0, 0}, []int{1, 2, 3, 0}},
		{[]int{1, 2, 0}, []int{3, 0, 2, 1}},       // 0 3 2 1, 0 3 2 1, 3 0 2 1
		{[]int{2, 0, 1}, []int{3, 1, 0, 2}},       // 0 1 3 2, 3 1 0 2, 3 1 0 2
		{[]int{0, 3, 1, 0}, []int{2, 4, 1, 3, 0}}, // 4 1 2 3 0, 4 1 2 3 0, 4 2 1 3 0, 2 4 1 3 0
	} {
		n := len(x.js) + 1
		shuffles(t, pairs(x.js...), n, 1, x.want, api.OK, 2*n-2)
		shuffles(t, pairs(x.js...)+"zz", n, 3, x.want, api.OK, 2*n-2)
	}
}

func TestShuffleOfATapeWithoutBytes(t *testing.T) {
	for n := range api.MaxBatch + 1 {
		var want []int // each place draws 0: the first number goes to the end, the others step up
		for i := range n {
			want = append(want, (i+1)%n)
		}
		shuffles(t, "", n, 1, want, api.OK, max(2*n-2, 0))
		shuffles(t, "", n, api.MaxTries, want, api.OK, max(2*n-2, 0))
	}
}

func TestShuffleWhereEachDrawsItself(t *testing.T) {
	for n := range api.MaxBatch + 1 {
		var js, want []int
		for i := range n {
			want = append(want, i)
			js = append(js, n-1-i)
		}
		shuffles(t, pairs(js...), n, 1, want, api.OK, max(2*n-2, 0))
	}
}

func TestShuffleOfNoneAndOfOneTakesNothing(t *testing.T) {
	for _, s := range []string{"", "ab", strings.Repeat("\xff", 99)} {
		for tries := 1; tries <= api.MaxTries; tries++ {
			shuffles(t, s, 0, tries, nil, api.OK, 0)
			shuffles(t, s, 1, tries, []int{0}, api.OK, 0)
		}
	}
}

func TestShuffleOfAllSizes(t *testing.T) {
	for n := range api.MaxBatch + 1 {
		for seed := range 20 {
			for _, size := range []int{0, 1, 2, 7, n, 2*n - 3, 2*n - 2, 3 * n, 500} {
				asThePlain(t, some(seed, max(size, 0)), n, 1+seed%api.MaxTries)
			}
		}
		shuffled, e := order.Shuffle(tape.New(some(n, 999)), n, api.MaxTries)
		if len(shuffled) != n || !isOrder(shuffled) || e != api.OK {
			t.Error(n, shuffled, e)
		}
	}
}

func TestShuffleGoesOnBehindWhatWasTaken(t *testing.T) {
	s := some(5, 4000)
	p, at := tape.New(s), 0
	for i := range 40 {
		p.Take(i % 5)
		at += i % 5
		n := i * 7 % (api.MaxBatch + 1)
		js, used := drawn(s[at:], n, api.MaxTries)
		at += used
		got, e := order.Shuffle(p, n, api.MaxTries)
		if !slices.Equal(got, cameTo(js, n)) || e != api.OK || p.Used() != at {
			t.Fatal(i, n, got, e, p.Used(), at)
		}
	}
	if got := p.Take(9); got != s[at:at+9] {
		t.Errorf("%q", got)
	}
}

// P11.1: tries

func TestEachPlaceHasItsTries(t *testing.T) {
	for n := 2; n <= api.MaxBatch; n++ {
		for tries := 1; tries <= api.MaxTries; tries += 3 {
			var s []int
			var js []int
			for most := n; most > 1; most-- {
				if limit(most) < 65536 {
					s = append(s, slices.Repeat([]int{limit(most)}, tries-1)...)
				}
				s = append(s, limit(most)-1) // the greatest that is not refused
				js = append(js, most-1)
			}
			shuffles(t, pairs(s...), n, tries, cameTo(js, n), api.OK, 2*len(s))
		}
	}
}

func TestATryThatIsRefusedIsTaken(t *testing.T) {
	shuffles(t, pairs(0xffff, 1), 3, 1, nil, api.ErrCap, 2)
	shuffles(t, pairs(0xffff, 1), 3, 2, []int{2, 0, 1}, api.OK, 6)
	shuffles(t, pairs(0xffff, 0xffff, 2, 1), 3, 2, nil, api.ErrCap, 4)
	shuffles(t, pairs(0xffff, 0xffff, 2, 1), 3, 3, []int{0, 1, 2}, api.OK, 8)
	shuffles(t, pairs(0xffff, 0xffff, 0xffff), 4, 2, nil, api.ErrCap, 6) // none is refused of 4; both of 3 are
	shuffles(t, pairs(0xffff, 0xffff, 0xffff), 2, 1, []int{0, 1}, api.OK, 2)
	shuffles(t, "\xfe", 3, 1, []int{1, 0, 2}, api.OK, 4) // 254, and then 0: there are noughts behind the end
}

func TestErrCapInTheMidst(t *testing.T) {
	for n := 3; n <= api.MaxBatch; n++ {
		for at := n; at > 2; at-- {
			if limit(at) == 65536 { // no try is refused
				continue
			}
			for _, tries := range []int{1, 2, 5, api.MaxTries} {
				capsAt(t, n, at, tries)
			}
		}
	}
}

// capsAt has the draw of at numbers of a shuffle of n refused, as often as it tries, and what is behind it still there.
func capsAt(t *testing.T, n, at, tries int) {
	t.Helper()
	var s []int
	for most := n; most > at; most-- {
		s = append(s, most-1)
	}
	for i := range tries {
		s = append(s, []int{limit(at), 0xffff}[i%2])
	}
	p := tape.New(pairs(s...) + "behind")
	got, e := order.Shuffle(p, n, tries)
	if len(got) != 0 || e != api.ErrCap || p.Used() != 2*len(s) {
		t.Fatal(n, at, tries, got, e, p.Used())
	}
	if rest := p.Take(6); rest != "behind" {
		t.Fatalf("%d, %d, %d: %q", n, at, tries, rest)
	}
}

func TestErrCapLeavesTheTapeGood(t *testing.T) {
	p := tape.New(pairs(0xffff, 2, 0xffff, 0xffff, 1, 0))
	for i, want := range []struct {
		l    []int
		e    api.Errno
		used int
	}{{nil, api.ErrCap, 2}, {[]int{0, 1, 2}, api.OK, 6}, {nil, api.ErrCap, 8}, {[]int{2, 0, 1}, api.OK, 12}, {[]int{1, 2, 0}, api.OK, 16}} {
		if l, e := order.Shuffle(p, 3, 1); !slices.Equal(l, want.l) || e != want.e || p.Used() != want.used {
			t.Error(i, l, e, p.Used())
		}
	}
}

func TestShuffleOfTapesOf255s(t *testing.T) {
	for n := range api.MaxBatch + 1 {
		for tries := 1; tries <= api.MaxTries; tries++ {
			asThePlain(t, strings.Repeat("\xff", 5000), n, tries)
			asThePlain(t, strings.Repeat("\xff", 3*n+tries), n, tries)
		}
	}
}

// P11.1: ErrArg

// asksNothing holds that a shuffle is ErrArg, and that nothing is taken.
func asksNothing(t *testing.T, n, tries int) {
	t.Helper()
	p := tape.New("abcdef")
	p.Take(2)
	if l, e := order.Shuffle(p, n, tries); len(l) != 0 || e != api.ErrArg || p.Used() != 2 {
		t.Error(n, tries, l, e, p.Used())
	}
	if rest := p.Take(9); rest != "cdef\x00\x00\x00\x00\x00" {
		t.Errorf("%d, %d: %q", n, tries, rest)
	}
}

func TestShuffleOfArgumentsThatMayNotBe(t *testing.T) {
	badSizes := append(far(), api.MaxBatch+1, api.MaxBatch+2, 255, 256)
	badTries := append(far(), 0, api.MaxTries+1, api.MaxTries+2, 255, 256, 257)
	for _, n := range badSizes {
		for _, tries := range append(badTries, 1, 2, api.MaxTries) {
			asksNothing(t, n, tries)
		}
	}
	for _, tries := range badTries {
		for n := range api.MaxBatch + 1 { // 0 and 1 too, though nothing is drawn of them
			asksNothing(t, n, tries)
		}
	}
}

func TestShuffleWithoutATape(t *testing.T) {
	for _, n := range append(far(), 0, 1, 2, 3, api.MaxBatch, api.MaxBatch+1) {
		for _, tries := range append(far(), 0, 1, api.MaxTries, api.MaxTries+1) {
			if l, e := order.Shuffle(nil, n, tries); len(l) != 0 || e != api.ErrArg {
				t.Error(n, tries, l, e)
			}
		}
	}
}

func TestShuffleOfTheGreatestBatch(t *testing.T) {
	asThePlain(t, some(1, 3000), api.MaxBatch, 1)
	asThePlain(t, some(2, 3000), api.MaxBatch, api.MaxTries)
	asksNothing(t, api.MaxBatch+1, 1)
}

// P11.2: Inverse

func TestInverseByHand(t *testing.T) {
	for _, x := range []struct{ l, want []int }{
		{nil, nil},
		{[]int{}, nil},
		{[]int{0}, []int{0}},
		{[]int{0, 1}, []int{0, 1}},
		{[]int{1, 0}, []int{1, 0}},
		{[]int{1, 2, 0}, []int{2, 0, 1}},
		{[]int{2, 0, 1}, []int{1, 2, 0}},
		{[]int{3, 1, 0, 2}, []int{2, 1, 3, 0}},
		{[]int{4, 3, 2, 1, 0}, []int{4, 3, 2, 1, 0}},
	} {
		if got, ok := order.Inverse(x.l); !ok || !slices.Equal(got, x.want) {
			t.Error(x.l, got, ok)
		}
	}
}

func TestInverseOfOrders(t *testing.T) {
	for _, l := range orders() {
		got, ok := order.Inverse(l)
		if !ok || len(got) != len(l) {
			t.Fatal(len(l), ok, len(got))
		}
		for i := range l {
			if got[l[i]] != i || l[got[i]] != i {
				t.Fatal(len(l), i)
			}
		}
		if back, ok := order.Inverse(got); !ok || !slices.Equal(back, l) {
			t.Fatal(len(l), "not the inverse of the inverse")
		}
	}
}

func TestRowsThatAreNoOrders(t *testing.T) {
	for n := range 6 {
		for _, l := range rowsOf(n, -1, n+1) {
			if !isOrder(l) {
				none(t, l)
			}
		}
	}
}

func TestANumberOutsideAtAnyPlace(t *testing.T) {
	for _, n := range []int{1, 2, 3, 8, api.MaxBatch, api.MaxBatch + 1, 100} {
		for at := range n {
			for _, m := range append(far(), n, n+1, -n) {
				l := great(n, n)
				l[at] = m
				none(t, l)
			}
		}
	}
}

func TestANumberTwiceAtAnyTwoPlaces(t *testing.T) {
	for _, n := range []int{2, 3, 8, api.MaxBatch, api.MaxBatch + 1} {
		for a := range n {
			for b := range n {
				if a != b {
					l := great(n, n)
					l[a] = l[b]
					none(t, l)
				}
			}
		}
	}
}

func TestGreatRowsThatAreNoOrders(t *testing.T) {
	n := 1 << 20
	none(t, make([]int, n)) // 0 at each place
	l := make([]int, n)
	for i := range l {
		l[i] = i + 1
	}
	none(t, l)
	l[n-1] = n - 2 // twice, the second time at the end
	none(t, l)
	l[n-1] = 0
	if got, ok := order.Inverse(l); !ok || got[0] != n-1 || got[n-1] != n-2 {
		t.Error(ok, len(got))
	}
}

// P11.2: Lay

func TestLayByHand(t *testing.T) {
	for _, x := range []struct {
		l           []int
		items, want []string
		ok          bool
	}{
		{nil, nil, nil, true},
		{[]int{}, []string{}, nil, true},
		{[]int{0}, []string{"a"}, []string{"a"}, true},
		{[]int{1, 2, 0}, []string{"a", "b", "c"}, []string{"b", "c", "a"}, true},
		{[]int{2, 0, 1}, []string{"a", "b", "c"}, []string{"c", "a", "b"}, true},
		{[]int{1, 0}, []string{"", ""}, []string{"", ""}, true},
		{[]int{1, 0, 2}, []string{"", "b", ""}, []string{"b", "", ""}, true},
		{[]int{2, 1, 0}, []string{"a", "a", "b"}, []string{"b", "a", "a"}, true},
		{[]int{1, 0}, []string{"\x00\xff", "\n"}, []string{"\n", "\x00\xff"}, true},
		{nil, []string{"a"}, nil, false},
		{nil, []string{""}, nil, false},
		{[]int{0}, nil, nil, false},
		{[]int{0}, []string{"a", "b"}, nil, false},
		{[]int{1, 0}, []string{"a"}, nil, false},
		{[]int{1, 0}, []string{"a", "b", "c"}, nil, false},
		{[]int{1, 1}, []string{"a", "b"}, nil, false},
		{[]int{0, 2}, []string{"a", "b"}, nil, false},
		{[]int{0, 2}, []string{"a", "b", "c"}, nil, false}, // each number has an item
		{[]int{-1, 0}, []string{"a", "b"}, nil, false},
		{[]int{1}, []string{"a"}, nil, false},
	} {
		if got, ok := order.Lay(x.l, x.items...); ok != x.ok || !slices.Equal(got, x.want) {
			t.Errorf("%v, %q: %q, %v", x.l, x.items, got, ok)
		}
	}
}

func TestLayHasAtEachPlaceItsNumbersItem(t *testing.T) {
	for _, l := range orders() {
		items := named(len(l))
		got, ok := order.Lay(l, items...)
		if !ok || len(got) != len(l) {
			t.Fatal(len(l), ok, len(got))
		}
		for i := range l {
			if got[i] != items[l[i]] {
				t.Fatal(len(l), i, got[i])
			}
		}
	}
}

func TestLayOfFewerItemsAndOfMore(t *testing.T) {
	for n := range 70 {
		l := great(n, n)
		for _, size := range []int{0, 1, n - 2, n - 1, n, n + 1, n + 2, 2 * n, 200} {
			if got, ok := order.Lay(l, named(max(size, 0))...); ok != (max(size, 0) == n) || !ok && len(got) != 0 {
				t.Error(n, size, ok, len(got))
			}
		}
	}
}

func TestLayOfItemsOfAnySize(t *testing.T) {
	items := []string{"", some(1, 1<<20), "\x00", some(2, 100), ""}
	got, ok := order.Lay([]int{3, 1, 4, 0, 2}, items...)
	if want := []string{items[3], items[1], "", "", "\x00"}; !ok || !slices.Equal(got, want) {
		t.Error(ok, len(got))
	}
}

// P11.3

func TestLayByTheInverseLaysBack(t *testing.T) {
	for _, l := range orders() {
		items := named(len(l))
		back, _ := order.Inverse(l)
		laid, _ := order.Lay(l, items...)
		if got, ok := order.Lay(back, laid...); !ok || !slices.Equal(got, items) {
			t.Fatal(len(l), ok)
		}
		laid, _ = order.Lay(back, items...) // and the other way about
		if got, ok := order.Lay(l, laid...); !ok || !slices.Equal(got, items) {
			t.Fatal(len(l), ok)
		}
	}
}

func TestWhatWasShuffledIsLaidBack(t *testing.T) {
	for n := range api.MaxBatch + 1 {
		for seed := range 10 {
			l, _ := order.Shuffle(tape.New(some(seed, 2000)), n, api.MaxTries)
			items := named(n)
			back, ok := order.Inverse(l)
			laid, fine := order.Lay(l, items...)
			got, good := order.Lay(back, laid...)
			if !ok || !fine || !good || !slices.Equal(got, items) {
				t.Fatal(n, seed, ok, fine, good)
			}
		}
	}
}

// rests are the rows of draws that n numbers can have.
func rests(n int) [][]int {
	if n < 2 {
		return [][]int{{}}
	}
	var all [][]int
	for j := range n {
		for _, l := range rests(n - 1) {
			all = append(all, append([]int{j}, l...))
		}
	}
	return all
}

func TestEachRowOfDrawsLeadsToAnOrderOfItsOwn(t *testing.T) {
	for n := range 8 {
		seen := map[string]bool{}
		for _, js := range rests(n) {
			l, e := order.Shuffle(tape.New(pairs(js...)), n, 1)
			if e != api.OK || !isOrder(l) || len(l) != n {
				t.Fatal(n, js, l, e)
			}
			seen[fmt.Sprint(l)] = true
		}
		if len(seen) != len(ordersOf(n)) {
			t.Error(n, len(seen))
		}
	}
}

// One place draws of all 65,536 pairs, while the others have each row of draws once: of those that are
// not refused there each order must come of as many. (Of all tapes it is then so, too: what a place draws
// hangs on its own pair alone, as TestADrawHangsOnItsPairsRestAlone has it.)
func TestEachOrderComesOfAsManyTapes(t *testing.T) {
	for n := 2; n <= 4; n++ {
		for place := range n - 1 {
			most := n - place
			counts, refused := countAt(t, n, place)
			if len(counts) != len(ordersOf(n)) {
				t.Error(n, place, len(counts))
			}
			for l, c := range counts {
				if c != 65536/most {
					t.Error(n, place, l, c)
				}
			}
			if others := len(ordersOf(n)) / most; refused != 65536%most*others {
				t.Error(n, place, refused)
			}
		}
	}
}

// countAt is of how many tapes each order of n comes, and how many are refused.
func countAt(t *testing.T, n, place int) (counts map[[4]int]int, refused int) {
	t.Helper()
	counts = map[[4]int]int{}
	for _, js := range rests(n) {
		if js[place] != 0 { // the others' rows, once each
			continue
		}
		for v := range 65536 {
			js[place] = v
			l, e := order.Shuffle(tape.New(pairs(js...)), n, 1)
			if e == api.ErrCap {
				refused++
				continue
			}
			if e != api.OK || len(l) != n {
				t.Fatal(n, js, l, e)
			}
			var key [4]int
			copy(key[:], l)
			counts[key]++
		}
	}
	return counts, refused
}

func TestADrawHangsOnItsPairsRestAlone(t *testing.T) {
	for n := 2; n <= api.MaxBatch; n++ {
		for seed := range 40 {
			s := []byte(some(seed, 2*n-2))
			var plain, wide []int
			for k := range n - 1 {
				most := n - k
				v := (int(s[2*k]) | int(s[2*k+1])<<8) % limit(most)
				wide = append(wide, v)
				plain = append(plain, v%most)
			}
			l, e := order.Shuffle(tape.New(pairs(wide...)), n, 1)
			shuffles(t, pairs(plain...), n, 1, l, api.OK, 2*n-2)
			if e != api.OK {
				t.Fatal(n, seed, e)
			}
		}
	}
}

// Rules that hold everywhere

// roomy is l with spare room behind it that is written full.
func roomy[T any](l []T, x T) []T {
	room := append(slices.Clone(l), x, x, x)
	return room[:len(l)]
}

// spoil writes over a list, its spare room too.
func spoil[T any](l []T, x T) {
	l = l[:cap(l)]
	for i := range l {
		l[i] = x
	}
}

// isRoomy tells if l, with its spare room, is as roomy made it.
func isRoomy[T comparable](l, was []T, x T) bool {
	return slices.Equal(l, was) && slices.Equal(l[len(l):len(l)+3], []T{x, x, x})
}

func TestWhatIsHandedInIsAsItWas(t *testing.T) {
	rows := orders()
	for n := range 4 {
		rows = append(rows, rowsOf(n, -1, n)...)
	}
	for _, was := range rows {
		l, items := roomy(was, 7), roomy(named(len(was)), "spare")
		order.Inverse(l)
		order.Lay(l, items...)
		order.Lay(l, items[:len(items)/2]...)
		if !isRoomy(l, was, 7) {
			t.Fatal(len(was), "the numbers")
		}
		if !isRoomy(items, named(len(was)), "spare") {
			t.Fatal(len(was), "the items")
		}
	}
}

func TestWhatIsToldIsNewMemory(t *testing.T) {
	for _, was := range orders() {
		l, items := roomy(was, 7), roomy(named(len(was)), "spare")
		a, _ := order.Inverse(l)
		b, _ := order.Inverse(l)
		x, _ := order.Lay(l, items...)
		y, _ := order.Lay(l, items...)
		wantB, wantY := slices.Clone(b), slices.Clone(y)
		spoil(a, -9)
		spoil(x, "spoilt")
		if !isRoomy(l, was, 7) || !isRoomy(items, named(len(was)), "spare") {
			t.Fatal(len(was), "shared with what was handed in")
		}
		spoil(l, -5)
		spoil(items, "spoilt")
		if !slices.Equal(b, wantB) || !slices.Equal(y, wantY) {
			t.Fatal(len(was), "shared with another answer, or with what was handed in")
		}
	}
}

func TestShufflesShareNoMemory(t *testing.T) {
	for n := range api.MaxBatch + 1 {
		s := some(n, 2000)
		want, _ := order.Shuffle(tape.New(s), n, api.MaxTries)
		want = slices.Clone(want)
		p := tape.New(s)
		a, _ := order.Shuffle(p, n, api.MaxTries)
		b, _ := order.Shuffle(p, n, api.MaxTries)
		wantB := slices.Clone(b)
		spoil(a, -9)
		c, _ := order.Shuffle(tape.New(s), n, api.MaxTries)
		if !slices.Equal(b, wantB) || !slices.Equal(c, want) {
			t.Error(n, b, c)
		}
	}
}

func TestAnswersHangOnTheArgumentsAlone(t *testing.T) {
	s := some(1, 2000)
	want, _ := order.Shuffle(tape.New(s), 20, 3)
	back, _ := order.Inverse(want)
	laid, _ := order.Lay(want, named(20)...)
	for i := range 50 {
		order.Shuffle(tape.New(some(i, 99)), i, i)
		order.Inverse(great(i, i))
		order.Lay(great(i, i), named(i)...)
		order.Inverse([]int{0, 0})
		a, _ := order.Shuffle(tape.New(s), 20, 3)
		b, _ := order.Inverse(a)
		c, _ := order.Lay(a, named(20)...)
		if !slices.Equal(a, want) || !slices.Equal(b, back) || !slices.Equal(c, laid) {
			t.Fatal(i, a, b, c)
		}
	}
}
