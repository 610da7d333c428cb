package cover_test

import (
	"crypto/sha256"
	"fmt"
	"math"
	"slices"
	"strings"
	"testing"
	"unsafe"

	"billet/api"
	"billet/cover"
	"billet/drop"
	"billet/table"
	"billet/tape"
	"billet/wire"
)

// some is n bytes that look like chance, the same for the same seed.
func some(seed, n int) string {
	var b []byte
	for i := 0; len(b) < n; i++ {
		h := sha256.Sum256(fmt.Append(nil, seed, i))
		b = append(b, h[:]...)
	}
	return string(b[:n])
}

func nought(n int) string {
	return strings.Repeat("\x00", n)
}

// plain is a table as the chapter's words have it; no weight of one is too great for an int.
type plain struct {
	num, den, reach, middle int
}

func (p plain) weight(n int) int {
	d := max(n-p.middle, p.middle-n)
	w := 1
	for range d {
		w *= p.den
	}
	for range p.reach - d {
		w *= p.num
	}
	return w
}

func (p plain) total() int {
	sum := 0
	for n := p.middle - p.reach; n <= p.middle+p.reach; n++ {
		sum += p.weight(n)
	}
	return sum
}

// size is how many bytes a draw takes, and last which of its last byte's bits count.
func (p plain) size() (size int, last byte) {
	bits := 0
	for w := p.total(); w > 0; w /= 2 {
		bits++
	}
	size = (bits + 7) / 8
	return size, byte(1<<(bits-8*(size-1)) - 1)
}

// word is the least word that leads to n.
func (p plain) word(n int) int {
	sum := 0
	for m := p.middle - p.reach; m < n; m++ {
		sum += p.weight(m)
	}
	return sum
}

// bytes is a word as it stands on a tape.
func (p plain) bytes(word int) string {
	size, _ := p.size()
	var b []byte
	for range size {
		b = append(b, byte(word))
		word >>= 8
	}
	return string(b)
}

// miss is what a draw may find on a tape and not take: all its bits are 1, and Total is not.
func (p plain) miss(t *testing.T) string {
	t.Helper()
	size, last := p.size()
	if 1<<(8*(size-1))*(int(last)+1)-1 < p.total() {
		t.Fatal(p, "takes all")
	}
	return strings.Repeat("\xff", size)
}

func (p plain) made(t *testing.T) *table.Table {
	t.Helper()
	x, e := table.New(p.num, p.den, p.reach, p.middle)
	if x == nil || e != api.OK {
		t.Fatal(p, x, e)
	}
	return x
}

// tables are all that there are.
func tables() []plain {
	var l []plain
	for num := 2; num <= 16; num++ {
		for den := 1; den < num; den++ {
			for reach := 0; reach <= 4; reach++ {
				for middle := reach; middle+reach <= 8; middle++ {
					l = append(l, plain{num, den, reach, middle})
				}
			}
		}
	}
	return l
}

// few are tables of all kinds: their draws take one byte or more, all their bits or not, their ends are 0 or not.
func few() []plain {
	return []plain{{2, 1, 0, 0}, {2, 1, 0, 1}, {16, 15, 0, 8}, {2, 1, 1, 1}, {3, 2, 2, 3}, {16, 1, 1, 4}, {2, 1, 4, 4}, {16, 15, 4, 4}, {5, 3, 3, 5}, {16, 15, 2, 6}, {7, 6, 1, 7}, {15, 2, 4, 4}}
}

// reader takes from a text byte by byte, and noughts behind its end.
type reader struct {
	s    string
	used int
}

func (r *reader) take(n int) string {
	var b []byte
	for range n {
		c := byte(0)
		if r.used < len(r.s) {
			c = r.s[r.used]
		}
		b = append(b, c)
		r.used++
	}
	return string(b)
}

func (r *reader) draw(p plain, tries int) (int, bool) {
	size, last := p.size()
	for range tries {
		w := 0
		for i, c := range []byte(r.take(size)) {
			if i == size-1 {
				c &= last
			}
			w |= int(c) << (8 * i)
		}
		for n := p.middle - p.reach; n <= p.middle+p.reach; n++ {
			if w < p.weight(n) {
				return n, true
			}
			w -= p.weight(n)
		}
	}
	return 0, false
}

// plainMake is Make as the chapter's words have it, and how much it takes.
func plainMake(s string, p plain, tries int) (cover.Covers, api.Errno, int) {
	r := &reader{s: s}
	ones, ok := r.draw(p, tries)
	if !ok {
		return cover.Covers{}, api.ErrCap, r.used
	}
	twos, ok := r.draw(p, tries)
	if !ok {
		return cover.Covers{}, api.ErrCap, r.used
	}
	c := cover.Covers{Ones: ones, Twos: twos}
	for range ones {
		c.Requests = append(c.Requests, r.take(52))
	}
	for range twos {
		both := r.take(88)
		c.Requests = append(c.Requests, both[:52], both[:16]+both[52:])
	}
	return c, api.OK, r.used
}

// alike tells if two covers are; no requests are no requests, nil or not.
func alike(a, b cover.Covers) bool {
	return a.Ones == b.Ones && a.Twos == b.Twos && slices.Equal(a.Requests, b.Requests)
}

// makes makes covers of a tape of s and holds what it answers, and what it takes.
func makes(t *testing.T, s string, p plain, tries int, want cover.Covers, e api.Errno, used int) {
	t.Helper()
	x := tape.New(s)
	got, f := cover.Make(x, p.made(t), tries)
	if !alike(got, want) || f != e || x.Used() != used {
		t.Fatalf("%v, %d tries, %.60q: %d, %d, %.200q, %d, Used %d; not %d, %d, %.200q, %d, %d",
			p, tries, s, got.Ones, got.Twos, got.Requests, f, x.Used(), want.Ones, want.Twos, want.Requests, e, used)
	}
}

// asThePlain holds Make against the one that goes byte by byte.
func asThePlain(t *testing.T, s string, p plain, tries int) cover.Covers {
	t.Helper()
	want, e, used := plainMake(s, p, tries)
	makes(t, s, p, tries, want, e, used)
	return want
}

// none asks for covers that there may not be, and holds that nothing is taken.
func none(t *testing.T, x *tape.Tape, y *table.Table, tries int) {
	t.Helper()
	was := x.Used()
	if c, e := cover.Make(x, y, tries); e != api.ErrArg || !alike(c, cover.Covers{}) || x.Used() != was {
		t.Errorf("no tape %v, table %v, %d: %d, %d, %.100q, %d, Used %d behind %d", x == nil, y, tries, c.Ones, c.Twos, c.Requests, e, x.Used(), was)
	}
}

// P18.1: who may ask

func TestWithoutATapeOrATable(t *testing.T) {
	for _, p := range few() {
		for _, tries := range []int{-1, 0, 1, 2, 15, 16, 17, math.MinInt, math.MaxInt} {
			none(t, nil, p.made(t), tries)
			none(t, tape.New(""), nil, tries)
			none(t, tape.New(some(1, 400)), nil, tries)
			none(t, nil, nil, tries)
		}
	}
}

func TestTriesThatMayNotBe(t *testing.T) {
	for _, p := range few() {
		// many are such a number's as may be, but for their high bits
		for _, tries := range []int{0, -1, -2, -15, -16, -17, -255, -256, math.MinInt8, math.MinInt16, math.MinInt32, math.MinInt, math.MinInt + 1,
			17, 18, 32, 255, 256, 257, 256 + 16, 1 << 16, 1<<16 + 1, math.MaxInt32, 1 << 32, 1<<32 + 1, 1<<32 + 16, 1<<62 + 1, math.MaxInt} {
			none(t, tape.New(""), p.made(t), tries)
			x := tape.New(some(tries, 2000))
			x.Take(3)
			none(t, x, p.made(t), tries)
			if x.Take(5) != some(tries, 8)[3:] {
				t.Error(p, tries, "taken")
			}
		}
	}
}

func TestTriesThatMayBe(t *testing.T) {
	for _, p := range few() {
		for tries := 1; tries <= api.MaxTries; tries++ {
			for seed := range 10 {
				asThePlain(t, some(100*tries+seed, 2000), p, tries)
			}
		}
	}
}

// P18.1: by hand

// letters is a text of n bytes: a name or a box that is known by its letter.
func letters(c byte, n int) string {
	return strings.Repeat(string([]byte{c}), n)
}

func TestByHand(t *testing.T) {
	id := func(c byte) string { return letters(c, 16) }
	box := func(c byte) string { return letters(c, 36) }
	three := plain{2, 1, 1, 1} // the numbers 0, 1, 2 with the weights 1, 2, 1: three bits of a byte
	for _, x := range []struct {
		draws, rest string
		ones, twos  int
		requests    []string
	}{
		{"\x00\x00", id('a') + box('A'), 0, 0, nil},
		{"\x01\x00", id('a') + box('A') + id('b'), 1, 0, []string{id('a') + box('A')}},
		{"\x02\x00", id('a') + box('A') + id('b'), 1, 0, []string{id('a') + box('A')}},
		{"\x03\x00", id('a') + box('A') + id('b') + box('B'), 2, 0, []string{id('a') + box('A'), id('b') + box('B')}},
		{"\x00\x01", id('a') + box('A') + box('B') + id('b'), 0, 1, []string{id('a') + box('A'), id('a') + box('B')}},
		{"\x00\x02", id('a') + box('A') + box('B'), 0, 1, []string{id('a') + box('A'), id('a') + box('B')}},
		{"\x00\x03", id('a') + box('A') + box('B') + id('c') + box('C') + box('D'), 0, 2, []string{id('a') + box('A'), id('a') + box('B'), id('c') + box('C'), id('c') + box('D')}},
		{"\x01\x01", id('a') + box('A') + id('b') + box('B') + box('C'), 1, 1, []string{id('a') + box('A'), id('b') + box('B'), id('b') + box('C')}},
		{"\x03\x02", id('a') + box('A') + id('b') + box('B') + id('c') + box('C') + box('D'), 2, 1, []string{id('a') + box('A'), id('b') + box('B'), id('c') + box('C'), id('c') + box('D')}},
		{"\x02\x03", id('a') + box('A') + id('b') + box('B') + box('C') + id('d') + box('D') + box('E'), 1, 2, []string{id('a') + box('A'), id('b') + box('B'), id('b') + box('C'), id('d') + box('D'), id('d') + box('E')}},
		{"\xf9\x38", id('a') + box('A') + id('b'), 1, 0, []string{id('a') + box('A')}}, // the five high bits do not count
	} {
		makes(t, x.draws+x.rest, three, 1, cover.Covers{Ones: x.ones, Twos: x.twos, Requests: x.requests}, api.OK, 2+52*x.ones+88*x.twos)
	}
}

func TestOfTheMiddle0Alone(t *testing.T) {
	for _, p := range []plain{{2, 1, 0, 0}, {16, 15, 0, 0}, {9, 4, 0, 0}} {
		for _, s := range []string{"", "\x00\x00", nought(600), "\xfe\xfe" + some(1, 600)} {
			makes(t, s, p, 1, cover.Covers{}, api.OK, 2)
			makes(t, s, p, api.MaxTries, cover.Covers{}, api.OK, 2)
		}
		makes(t, "\x01\x00\xff\x02"+some(1, 600), p, 2, cover.Covers{}, api.OK, 4)
	}
}

func TestOfOneNumberAlone(t *testing.T) {
	for m := range api.MaxCover + 1 {
		body := some(m, 52*m+88*m)
		c := asThePlain(t, "\x00\x00"+body+"more", plain{3, 1, 0, m}, 1)
		if c.Ones != m || c.Twos != m || len(c.Requests) != 3*m {
			t.Error(m, c.Ones, c.Twos, len(c.Requests))
		}
		makes(t, "\x00\x00"+body, plain{3, 1, 0, m}, 1, c, api.OK, 2+140*m)
	}
}

func TestOnesAndTwosOfAnyNumber(t *testing.T) {
	for _, p := range []plain{{2, 1, 4, 4}, {16, 15, 4, 4}, {3, 2, 4, 4}, {16, 1, 4, 4}} {
		size, _ := p.size()
		for ones := range 9 {
			for twos := range 9 {
				body := some(10*ones+twos, 52*ones+88*twos)
				var want []string
				rest := body
				for range ones {
					want, rest = append(want, rest[:52]), rest[52:]
				}
				for range twos {
					want, rest = append(want, rest[:52], rest[:16]+rest[52:88]), rest[88:]
				}
				s := p.bytes(p.word(ones)) + p.bytes(p.word(twos)) + body
				makes(t, s, p, 1, cover.Covers{Ones: ones, Twos: twos, Requests: want}, api.OK, 2*size+len(body))
				makes(t, s+"behind it", p, 16, cover.Covers{Ones: ones, Twos: twos, Requests: want}, api.OK, 2*size+len(body))
				s = p.bytes(p.word(ones+1)-1) + p.bytes(p.word(twos+1)-1) + body // the greatest words that lead there
				makes(t, s, p, 1, cover.Covers{Ones: ones, Twos: twos, Requests: want}, api.OK, 2*size+len(body))
			}
		}
	}
}

// P18.1: how likely

func TestAsLikelyAsTheWeightsSay(t *testing.T) {
	for _, p := range []plain{{2, 1, 1, 1}, {3, 2, 2, 3}, {2, 1, 2, 2}, {5, 4, 1, 1}} {
		x := p.made(t)
		_, last := p.size()
		ways := map[[2]int]int{}
		for a := range int(last) + 1 {
			for b := range int(last) + 1 {
				c, e := cover.Make(tape.New(string([]byte{byte(a), byte(b)})), x, 1)
				if (e == api.OK) != (a < p.total() && b < p.total()) {
					t.Fatal(p, a, b, e)
				}
				if e == api.OK {
					ways[[2]int{c.Ones, c.Twos}]++
				}
			}
		}
		for n := x.Least(); n <= x.Most(); n++ {
			for m := x.Least(); m <= x.Most(); m++ {
				if ways[[2]int{n, m}] != p.weight(n)*p.weight(m) {
					t.Error(p, n, m, ways)
				}
			}
		}
	}
}

// P18.1: draws that bring nothing

func TestADrawThatBringsNothing(t *testing.T) {
	for _, p := range few() {
		size, _ := p.size()
		miss, hit := p.miss(t), p.bytes(p.word(p.middle))
		for tries := 1; tries <= api.MaxTries; tries++ {
			// the first one: what would be the second one's, and the requests', is not taken
			makes(t, strings.Repeat(miss, tries)+hit+hit+some(1, 2000), p, tries, cover.Covers{}, api.ErrCap, tries*size)
			// the second one, behind a first one that comes to its number at any try
			for at := range tries {
				s := strings.Repeat(miss, at) + hit + strings.Repeat(miss, tries)
				makes(t, s+hit+hit+some(1, 2000), p, tries, cover.Covers{}, api.ErrCap, len(s))
			}
		}
	}
}

func TestDrawsThatComeToTheirNumbersAtAnyTry(t *testing.T) {
	for _, p := range few() {
		size, _ := p.size()
		miss, hit, body := p.miss(t), p.bytes(p.word(p.middle)), some(3, 140*p.middle)
		want, _, _ := plainMake(hit+hit+body, p, 1)
		for a := range api.MaxTries {
			for b := range api.MaxTries {
				s := strings.Repeat(miss, a) + hit + strings.Repeat(miss, b) + hit
				makes(t, s+body, p, max(a, b)+1, want, api.OK, (a+b+2)*size+len(body))
				makes(t, s+body, p, api.MaxTries, want, api.OK, (a+b+2)*size+len(body))
				if most := max(a, b); most > 0 {
					asThePlain(t, s+body, p, most) // a try too few
				}
			}
		}
	}
}

func TestATapeThatBringsNothingAtAll(t *testing.T) {
	for _, p := range few() {
		size, _ := p.size()
		for tries := 1; tries <= api.MaxTries; tries++ {
			makes(t, strings.Repeat("\xff", 2000), p, tries, cover.Covers{}, api.ErrCap, tries*size)
		}
	}
}

// P18.1: tapes that end

func TestAnEmptyTape(t *testing.T) {
	for _, p := range tables() {
		size, _ := p.size()
		least := p.middle - p.reach
		want := cover.Covers{Ones: least, Twos: least, Requests: slices.Repeat([]string{nought(52)}, 3*least)}
		makes(t, "", p, 1, want, api.OK, 2*size+140*least)
		more := 0
		if least > 0 {
			more = 1 // all bear the name of noughts
		}
		if a, b, m := drop.Count(want.Requests...); a != 0 || b != 0 || m != more {
			t.Error(p, a, b, m)
		}
	}
}

func TestATapeThatEndsAnywhere(t *testing.T) {
	p := plain{2, 1, 1, 2} // the numbers 1, 2, 3
	whole := "\x01\x02" + some(1, 52*2+88*2)
	for n := range len(whole) + 1 {
		cut := whole[:n]
		c := asThePlain(t, cut, p, 1)
		makes(t, cut+nought(len(whole)), p, 1, c, api.OK, 2+52*c.Ones+88*c.Twos)
	}
}

// P18.1: in which row

func TestEachByteOfATapeHasItsPlace(t *testing.T) {
	p := plain{2, 1, 1, 2}
	const ones, twos = 2, 3
	s := "\x01\x03" + some(2, 52*ones+88*twos)
	was := asThePlain(t, s, p, 1)
	for at := 2; at < len(s); at++ {
		b := []byte(s)
		b[at] ^= 0x40
		got, e := cover.Make(tape.New(string(b)), p.made(t), 1)
		if e != api.OK || len(got.Requests) != ones+2*twos {
			t.Fatal(at, e, len(got.Requests))
		}
		turned := func(r string, i int) string {
			return r[:i] + string([]byte{r[i] ^ 0x40}) + r[i+1:]
		}
		want := slices.Clone(was.Requests)
		switch n := at - 2; {
		case n < 52*ones:
			want[n/52] = turned(want[n/52], n%52)
		default:
			n -= 52 * ones
			pair, i := ones+2*(n/88), n%88
			if i < 52 {
				want[pair] = turned(want[pair], i)
			}
			if i < 16 {
				want[pair+1] = turned(want[pair+1], i)
			}
			if i >= 52 {
				want[pair+1] = turned(want[pair+1], i-36)
			}
		}
		if !slices.Equal(got.Requests, want) {
			t.Fatal(at)
		}
	}
}

func TestATapeOfWhichSomeWasTaken(t *testing.T) {
	p := plain{3, 2, 2, 3}
	for n := range 70 {
		s := some(n, 3000)
		want, e, used := plainMake(s[n:], p, 4)
		x := tape.New(s)
		x.Take(n)
		got, f := cover.Make(x, p.made(t), 4)
		if !alike(got, want) || e != f || x.Used() != n+used || x.Take(9) != s[n+used:n+used+9] {
			t.Error(n, got.Ones, got.Twos, f, x.Used())
		}
	}
}

func TestOneTapeForManyCovers(t *testing.T) {
	for i, p := range few() {
		s := some(i, 40000)
		x, y := tape.New(s), p.made(t)
		at := 0
		for range 20 {
			want, e, used := plainMake(s[at:], p, 3)
			got, f := cover.Make(x, y, 3)
			at += used
			if !alike(got, want) || e != f || x.Used() != at {
				t.Fatal(p, got.Ones, got.Twos, f, x.Used())
			}
		}
	}
}

// Many

func TestOfAllTables(t *testing.T) {
	for i, p := range tables() {
		for k := range 4 {
			asThePlain(t, some(4*i+k, 1300), p, 1+(i+5*k)%api.MaxTries)
		}
	}
}

// P18.2

// counted makes covers of a tape that looks like chance, and holds how many there are.
func counted(t *testing.T, p plain, seed int) cover.Covers {
	t.Helper()
	c, e := cover.Make(tape.New(some(seed, 1300)), p.made(t), api.MaxTries)
	if e != api.OK || len(c.Requests) != c.Ones+2*c.Twos {
		t.Fatal(p, seed, e, c.Ones, c.Twos, len(c.Requests))
	}
	return c
}

func TestHowManyThereAre(t *testing.T) {
	for i, p := range slices.Repeat(few(), 40) {
		c := counted(t, p, i)
		if a, b, m := drop.Count(c.Requests...); a != c.Ones || b != c.Twos || m != 0 {
			t.Error(p, i, c.Ones, c.Twos, a, b, m)
		}
	}
}

func TestNumbersAreTheTables(t *testing.T) {
	seen := map[[2]int]bool{}
	for i, p := range slices.Repeat([]plain{{5, 4, 1, 3}, {2, 1, 2, 4}}, 200) {
		c, e, _ := plainMake(some(i, 1300), p, api.MaxTries)
		if got := counted(t, p, i); e != api.OK || !alike(got, c) {
			t.Fatal(p, i, e)
		}
		if c.Ones < p.middle-p.reach || c.Ones > p.middle+p.reach || c.Twos < p.middle-p.reach || c.Twos > p.middle+p.reach {
			t.Error(p, i, c.Ones, c.Twos)
		}
		if p.reach == 1 {
			seen[[2]int{c.Ones, c.Twos}] = true
		}
	}
	if len(seen) != 9 { // the two draws do not hang together
		t.Error(seen)
	}
}

func TestWhoMeets(t *testing.T) {
	for i, p := range slices.Repeat(few(), 10) {
		c := counted(t, p, i)
		for k, b := range drop.Match(c.Requests...) {
			want := nought(36)
			if k >= c.Ones {
				want = c.Requests[c.Ones+((k-c.Ones)^1)][16:] // the other one of the pair
			}
			if b != want {
				t.Error(p, i, k)
			}
		}
	}
}

func TestOnesAreAheadOfTwos(t *testing.T) {
	for i, p := range slices.Repeat(few(), 10) {
		c := counted(t, p, i)
		for k, r := range c.Requests {
			if a, _, _ := drop.Count(append(slices.Clone(c.Requests), r[:16]+nought(36))...); (k < c.Ones) != (a == c.Ones-1) {
				t.Error(p, i, k)
			}
		}
	}
}

func TestAllAreRequests(t *testing.T) {
	for i, p := range slices.Repeat(few(), 10) {
		c := counted(t, p, i)
		if len(c.Requests) == 0 {
			continue
		}
		if _, e := wire.List(api.RequestSize, c.Requests...); e != api.OK {
			t.Error(p, i, e)
		}
		for _, r := range c.Requests {
			if _, _, ok := wire.Parts(r); !ok {
				t.Errorf("%q", r)
			}
		}
	}
}

func TestNamesThatAreAlikeByChance(t *testing.T) {
	same := some(1, 16)
	box := func(n int) string { return some(100+n, 36) }
	for _, x := range []struct {
		ones, twos int
		body       string
		requests   []string
		counts     [3]int
	}{
		{2, 0, same + box(1) + same + box(2), []string{same + box(1), same + box(2)}, [3]int{0, 1, 0}},
		{0, 2, same + box(1) + box(2) + same + box(3) + box(4), []string{same + box(1), same + box(2), same + box(3), same + box(4)}, [3]int{0, 0, 1}},
		{1, 1, same + box(1) + same + box(2) + box(3), []string{same + box(1), same + box(2), same + box(3)}, [3]int{0, 0, 1}},
		{0, 1, same + box(1) + box(1), []string{same + box(1), same + box(1)}, [3]int{0, 1, 0}}, // their boxes are alike, too
		{2, 0, same + box(1) + same + box(1), []string{same + box(1), same + box(1)}, [3]int{0, 1, 0}},
	} {
		p := plain{2, 1, 1, 1}
		want := cover.Covers{Ones: x.ones, Twos: x.twos, Requests: x.requests}
		makes(t, p.bytes(p.word(x.ones))+p.bytes(p.word(x.twos))+x.body, p, 1, want, api.OK, 2+len(x.body))
		if a, b, m := drop.Count(x.requests...); [3]int{a, b, m} != x.counts {
			t.Error(x.counts, a, b, m)
		}
	}
}

// Rules that hold everywhere

func TestTablesAreAsTheyWere(t *testing.T) {
	for i, p := range few() {
		x, fresh := p.made(t), p.made(t)
		was := *x
		for k := range 20 {
			cover.Make(tape.New(some(k, 900)), x, 1+k%16)
			cover.Make(tape.New(""), x, 17)
			cover.Make(nil, x, 1)
		}
		if *x != was || *x != *fresh {
			t.Error(i, p, "changed")
		}
	}
}

// apart tells if two texts have no byte in one place of memory.
func apart(a, b string) bool {
	if a == "" || b == "" {
		return true
	}
	x, y := uintptr(unsafe.Pointer(unsafe.StringData(a))), uintptr(unsafe.Pointer(unsafe.StringData(b)))
	return x+uintptr(len(a)) <= y || y+uintptr(len(b)) <= x
}

func TestRequestsThatAreToldAreNewMemory(t *testing.T) {
	p := plain{2, 1, 0, 8}
	for i, s := range []string{"\x00\x00" + some(1, 1120), ""} {
		s = strings.Clone(s)
		one, _ := cover.Make(tape.New(s), p.made(t), 1)
		two, _ := cover.Make(tape.New(s), p.made(t), 1)
		all := slices.Concat([]string{s}, one.Requests, two.Requests)
		for k, a := range all {
			for _, b := range all[:k] {
				if !apart(a, b) {
					t.Fatalf("%d: %.60q and %.60q share memory", i, a, b)
				}
			}
		}
	}
}

func TestListsThatAreToldAreNewMemory(t *testing.T) {
	for i, p := range slices.Repeat(few(), 5) {
		s := some(i, 1300)
		want, _, _ := plainMake(s, p, 16)
		one, _ := cover.Make(tape.New(s), p.made(t), 16)
		two, _ := cover.Make(tape.New(s), p.made(t), 16)
		l := one.Requests[:cap(one.Requests)] // its spare room, too
		for k := range l {
			l[k] = "spoilt"
		}
		if !alike(two, want) {
			t.Fatal(p, "shared")
		}
		asThePlain(t, s, p, 16)
	}
}

func TestTheTapesTextIsAsItWasAndNotKept(t *testing.T) {
	for i, p := range few() {
		s := some(i, 1300)
		b := []byte(s + "spare")
		want, e, _ := plainMake(s, p, 16)
		got, f := cover.Make(tape.New(unsafe.String(&b[0], len(s))), p.made(t), 16)
		if string(b) != s+"spare" {
			t.Error(p, "changed")
		}
		clear(b)
		if !alike(got, want) || e != f {
			t.Error(p, "shared")
		}
	}
}

func TestAnswersHangOnTheArgumentsAlone(t *testing.T) {
	for i, p := range few() {
		s := some(i, 1300)
		want := asThePlain(t, s, p, 8)
		for k := range 5 {
			other := few()[k]
			cover.Make(tape.New(some(k, 1300)), other.made(t), 16)
			cover.Make(tape.New(strings.Repeat("\xff", 9)), other.made(t), 2)
			cover.Make(nil, nil, k)
			if got := asThePlain(t, s, p, 8); !alike(got, want) {
				t.Fatal(p, k)
			}
		}
		x := p.made(t) // one table for many covers
		for range 5 {
			if got, _ := cover.Make(tape.New(s), x, 8); !alike(got, want) {
				t.Fatal(p)
			}
		}
	}
}
