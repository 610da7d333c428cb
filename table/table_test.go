package table_test

import (
	"crypto/sha256"
	"fmt"
	"math"
	"math/big"
	"reflect"
	"slices"
	"strings"
	"testing"
	"unsafe"

	"billet/api"
	"billet/nat"
	"billet/table"
	"billet/tape"
)

// some is n bytes that look like chance, the same for the same seed.
func some(seed, n int) string {
	var b []byte
	for i := 0; len(b) < n; i++ {
		h := sha256.Sum256(fmt.Append(nil, seed, i))
		b = append(b, h[:]...)
	}
	return string(b[:n])
}

// plain is a table as the chapter's words have it, over the library's own numbers.
type plain struct {
	num, den, reach, middle int
}

// may tells if it is a table's; by numbers that do not wrap round.
func (p plain) may() bool {
	b := func(n int) *big.Int { return big.NewInt(int64(n)) }
	sum := new(big.Int).Add(b(p.middle), b(p.reach))
	return 1 <= p.den && p.den < p.num && p.num <= 16 && p.reach >= 0 && p.middle >= p.reach && sum.Cmp(b(8)) <= 0
}

func (p plain) numbers() []int {
	var l []int
	for n := p.middle - p.reach; n <= p.middle+p.reach; n++ {
		l = append(l, n)
	}
	return l
}

func (p plain) weight(n int) *big.Int {
	if !slices.Contains(p.numbers(), n) {
		return new(big.Int)
	}
	d := n - p.middle
	if d < 0 {
		d = -d
	}
	out := big.NewInt(1)
	for range d {
		out.Mul(out, big.NewInt(int64(p.den)))
	}
	for range p.reach - d {
		out.Mul(out, big.NewInt(int64(p.num)))
	}
	return out
}

func (p plain) total() *big.Int {
	sum := new(big.Int)
	for _, n := range p.numbers() {
		sum.Add(sum, p.weight(n))
	}
	return sum
}

// made is the table itself.
func (p plain) made(t *testing.T) *table.Table {
	t.Helper()
	x, e := table.New(p.num, p.den, p.reach, p.middle)
	if x == nil || e != api.OK {
		t.Fatal(p, x, e)
	}
	return x
}

// tables are all that there are.
func tables() []plain {
	var l []plain
	for num := 2; num <= 16; num++ {
		for den := 1; den < num; den++ {
			for reach := 0; reach <= 4; reach++ {
				for middle := reach; middle+reach <= 8; middle++ {
					l = append(l, plain{num, den, reach, middle})
				}
			}
		}
	}
	return l
}

// far are numbers of which none is a table's, nor a part of what makes one; many are such a number's but for their high bits.
func far() []int {
	return []int{-1, -2, -8, -255, -256, math.MinInt8, math.MinInt32, math.MinInt + 1, math.MinInt, 9 + api.MaxNum, 255, 256, 257, 258, 260, 1<<16 + 1, 1<<16 + 4,
		math.MaxInt32, 1 << 32, 1<<32 + 1, 1<<32 + 2, 1<<32 + 4, 1 << 62, 1<<62 + 2, math.MaxInt - 8, math.MaxInt - 1, math.MaxInt}
}

// is holds a number against the library's.
func is(t *testing.T, what any, got nat.Nat, want *big.Int) {
	t.Helper()
	if got.Text() != want.String() || got.Bits() != want.BitLen() {
		t.Errorf("%v: %s, not %s", what, got.Text(), want)
	}
}

// text is a number's bytes, the lowest first, as many as size.
func text(n *big.Int, size int) string {
	b := n.FillBytes(make([]byte, size))
	slices.Reverse(b)
	return string(b)
}

// of is the library's number as one of nat's.
func of(n *big.Int) nat.Nat {
	return nat.Bytes(text(n, (n.BitLen()+7)/8))
}

func plus(a *big.Int, n int64) *big.Int {
	return new(big.Int).Add(a, big.NewInt(n))
}

func pow2(n int) *big.Int {
	return new(big.Int).Lsh(big.NewInt(1), uint(n))
}

// leads asks where a word leads to, and holds it.
func leads(t *testing.T, p plain, x *table.Table, w *big.Int, want int, ok bool) {
	t.Helper()
	if got, yes := x.At(of(w)); got != want || yes != ok {
		t.Errorf("%v: At(%.40s): %d, %v; not %d, %v", p, w, got, yes, want, ok)
	}
}

// draws draws from a tape of s and holds what it answers, and what it takes.
func draws(t *testing.T, x *table.Table, s string, tries, want int, e api.Errno, used int) {
	t.Helper()
	p := tape.New(s)
	if got, f := x.Draw(p, tries); got != want || f != e || p.Used() != used {
		t.Errorf("%.20q: Draw(%d): %d, %d, Used %d; not %d, %d, %d", s, tries, got, f, p.Used(), want, e, used)
	}
}

// P10.1

func TestTheExamples(t *testing.T) {
	x := plain{2, 1, 1, 1}.made(t)
	if x.Least() != 0 || x.Most() != 2 {
		t.Error(x.Least(), x.Most())
	}
	for n, want := range []string{"1", "2", "1", "0"} {
		if got := x.Weight(n).Text(); got != want {
			t.Error(n, got)
		}
	}
	if x.Total().Text() != "4" || x.Edge().Text() != "1" {
		t.Error(x.Total().Text(), x.Edge().Text())
	}
	for w, want := range []int{0, 1, 1, 2} {
		if got, ok := x.At(nat.Of(uint64(w))); got != want || !ok {
			t.Error(w, got, ok)
		}
	}
	if got, ok := x.At(nat.Of(4)); got != 0 || ok {
		t.Error(4, got, ok)
	}
}

// asksNew asks for a table and holds what it answers.
func asksNew(t *testing.T, p plain) {
	t.Helper()
	x, e := table.New(p.num, p.den, p.reach, p.middle)
	if p.may() && (x == nil || e != api.OK) || !p.may() && (x != nil || e != api.ErrArg) {
		t.Errorf("New%v: %v, %d", p, x, e)
	}
}

func TestNewOfAllAboutTheEdges(t *testing.T) {
	count := 0
	for num := -3; num <= api.MaxNum+3; num++ {
		for den := -3; den <= api.MaxNum+3; den++ {
			for reach := -3; reach <= api.MaxCover+3; reach++ {
				for middle := -3; middle <= api.MaxCover+3; middle++ {
					p := plain{num, den, reach, middle}
					asksNew(t, p)
					if p.may() {
						count++
					}
				}
			}
		}
	}
	if count != len(tables()) || count != 3000 {
		t.Error("tables", count, len(tables()))
	}
}

func TestNewByHand(t *testing.T) {
	for _, x := range []struct {
		p  plain
		ok bool
	}{
		{plain{2, 1, 0, 0}, true},
		{plain{5, 0, 1, 1}, false},
		{plain{5, 1, 1, 1}, true},
		{plain{5, 4, 1, 1}, true},
		{plain{5, 5, 1, 1}, false},
		{plain{5, 6, 1, 1}, false},
		{plain{1, 0, 0, 0}, false},
		{plain{1, 1, 0, 0}, false},
		{plain{0, 0, 0, 0}, false},
		{plain{16, 1, 0, 0}, true},
		{plain{16, 15, 0, 0}, true},
		{plain{17, 1, 0, 0}, false},
		{plain{17, 16, 0, 0}, false},
		{plain{-1, -2, 0, 0}, false},
		{plain{5, -1, 0, 0}, false},
		{plain{2, 1, -1, 0}, false},
		{plain{2, 1, -1, 5}, false},
		{plain{2, 1, 0, -1}, false},
		{plain{2, 1, -1, -1}, false},
		{plain{2, 1, 0, 8}, true},
		{plain{2, 1, 0, 9}, false},
		{plain{2, 1, 3, 3}, true},
		{plain{2, 1, 3, 2}, false},
		{plain{2, 1, 3, 5}, true},
		{plain{2, 1, 3, 6}, false},
		{plain{2, 1, 4, 4}, true},
		{plain{2, 1, 4, 5}, false},
		{plain{2, 1, 5, 4}, false},
		{plain{2, 1, 5, 5}, false},
	} {
		if x.p.may() != x.ok {
			t.Error("the test's own rule", x)
		}
		asksNew(t, x.p)
	}
}

func TestNewOfNumbersFarOff(t *testing.T) {
	good := plain{3, 2, 2, 4}
	asksNew(t, good)
	for _, a := range far() {
		for _, p := range []plain{{a, 2, 2, 4}, {3, a, 2, 4}, {3, 2, a, 4}, {3, 2, 2, a}, {a, 2, 0, 0}, {16, a, 0, 0}, {3, 2, a, 0}, {3, 2, 0, a}} {
			if p.may() {
				t.Error("the test's own rule", p)
			}
			asksNew(t, p)
		}
		for _, b := range far() { // their sum may wrap round to one that could be
			asksNew(t, plain{a, b, 2, 4})
			asksNew(t, plain{3, 2, a, b})
		}
	}
	for _, p := range []plain{{3, 2, math.MinInt, math.MinInt}, {3, 2, 1 << 62, 1 << 62}, {3, 2, math.MaxInt, math.MaxInt}, {3, 2, math.MaxInt, math.MinInt}, {3, 2, 1 << 62, math.MaxInt}, {3, 2, math.MinInt, 4}} {
		asksNew(t, p)
	}
}

func TestLeastAndMost(t *testing.T) {
	for _, p := range tables() {
		x := p.made(t)
		if l := p.numbers(); x.Least() != slices.Min(l) || x.Most() != slices.Max(l) {
			t.Error(p, x.Least(), x.Most())
		}
	}
}

func TestWeightsByHand(t *testing.T) {
	for _, x := range []struct {
		p       plain
		weights string // from 0 to 9
		total   string
		edge    string
	}{
		{plain{2, 1, 0, 0}, "1 0 0 0 0 0 0 0 0 0", "1", "1"},
		{plain{16, 15, 0, 8}, "0 0 0 0 0 0 0 0 1 0", "1", "1"},
		{plain{2, 1, 1, 1}, "1 2 1 0 0 0 0 0 0 0", "4", "1"},
		{plain{5, 3, 1, 7}, "0 0 0 0 0 0 3 5 3 0", "11", "3"},
		{plain{3, 2, 2, 3}, "0 4 6 9 6 4 0 0 0 0", "29", "4"},
		{plain{7, 1, 3, 5}, "0 0 1 7 49 343 49 7 1 0", "457", "1"},
		{plain{2, 1, 4, 4}, "1 2 4 8 16 8 4 2 1 0", "46", "1"},
		{plain{16, 1, 4, 4}, "1 16 256 4096 65536 4096 256 16 1 0", "74274", "1"},
		{plain{16, 15, 4, 4}, "50625 54000 57600 61440 65536 61440 57600 54000 50625 0", "512866", "50625"},
	} {
		made := x.p.made(t)
		var l []string
		for n := range 10 {
			l = append(l, made.Weight(n).Text())
		}
		if got := strings.Join(l, " "); got != x.weights || made.Total().Text() != x.total || made.Edge().Text() != x.edge {
			t.Error(x.p, got, made.Total().Text(), made.Edge().Text())
		}
	}
}

func TestWeightOfAll(t *testing.T) {
	for _, p := range tables() {
		x := p.made(t)
		for n := -12; n <= 20; n++ {
			is(t, n, x.Weight(n), p.weight(n))
		}
		// the least, the middle, the greatest, and what lies just outside
		is(t, p, x.Weight(x.Least()), p.weight(p.middle-p.reach))
		is(t, p, x.Weight(p.middle), p.weight(p.middle))
		is(t, p, x.Weight(x.Most()), p.weight(p.middle+p.reach))
		is(t, p, x.Weight(x.Least()-1), new(big.Int))
		is(t, p, x.Weight(x.Most()+1), new(big.Int))
	}
}

func TestWeightOfNumbersFarOff(t *testing.T) {
	for _, p := range []plain{{2, 1, 0, 0}, {2, 1, 0, 8}, {3, 2, 2, 3}, {2, 1, 4, 4}, {16, 15, 4, 4}} {
		x := p.made(t)
		for _, n := range far() {
			is(t, n, x.Weight(n), new(big.Int))
		}
	}
}

func TestTotalIsTheSumOfAll(t *testing.T) {
	for _, p := range tables() {
		x := p.made(t)
		is(t, p, x.Total(), p.total())
		var sum nat.Nat
		for n := -3; n <= 12; n++ {
			sum = nat.Add(sum, x.Weight(n))
		}
		if nat.Cmp(sum, x.Total()) != 0 {
			t.Error(p, sum.Text(), x.Total().Text())
		}
	}
}

func TestEdgeIsTheWeightOfTheLeast(t *testing.T) {
	for _, p := range tables() {
		x := p.made(t)
		is(t, p, x.Edge(), new(big.Int).Exp(big.NewInt(int64(p.den)), big.NewInt(int64(p.reach)), nil))
		if nat.Cmp(x.Edge(), x.Weight(x.Least())) != 0 || nat.Cmp(x.Edge(), x.Weight(x.Most())) != 0 {
			t.Error(p, x.Edge().Text())
		}
	}
}

func TestOfNil(t *testing.T) {
	var x *table.Table
	if x.Least() != 0 || x.Most() != 0 {
		t.Error(x.Least(), x.Most())
	}
	for _, n := range append(far(), 0, 1, 4, 8, 9) {
		is(t, n, x.Weight(n), new(big.Int))
	}
	is(t, "Total", x.Total(), new(big.Int))
	is(t, "Edge", x.Edge(), new(big.Int))
	for _, w := range []*big.Int{new(big.Int), big.NewInt(1), big.NewInt(4), pow2(64), pow2(2000)} {
		leads(t, plain{}, x, w, 0, false)
	}
	for _, tries := range append(far(), 0, 1, api.MaxTries, api.MaxTries+1) {
		draws(t, x, "", tries, 0, api.ErrArg, 0)
		draws(t, x, "abc", tries, 0, api.ErrArg, 0)
		if n, e := x.Draw(nil, tries); n != 0 || e != api.ErrArg {
			t.Error("without a tape", tries, n, e)
		}
	}
}

// P10.2: At

func TestAtWhereWordsEndAndBegin(t *testing.T) {
	for _, p := range tables() {
		x := p.made(t)
		first := new(big.Int) // the first word of n
		for _, n := range p.numbers() {
			next := new(big.Int).Add(first, p.weight(n))
			leads(t, p, x, first, n, true)
			leads(t, p, x, plus(next, -1), n, true)
			if n > p.middle-p.reach {
				leads(t, p, x, plus(first, -1), n-1, true)
			}
			if n < p.middle+p.reach {
				leads(t, p, x, next, n+1, true)
			}
			first = next
		}
		leads(t, p, x, new(big.Int), p.middle-p.reach, true)
		leads(t, p, x, plus(p.total(), -1), p.middle+p.reach, true)
		leads(t, p, x, p.total(), 0, false)
	}
}

func TestAtOfTheZeroValue(t *testing.T) {
	for _, p := range tables() {
		if n, ok := p.made(t).At(nat.Nat{}); n != p.middle-p.reach || !ok {
			t.Error(p, n, ok)
		}
	}
}

func TestAtOfWhatIsNotBelowTotal(t *testing.T) {
	for _, p := range tables() {
		x, total := p.made(t), p.total()
		for _, n := range []int64{0, 1, 2, 100, 1 << 30} {
			leads(t, p, x, plus(total, n), 0, false)
		}
		for _, n := range []int{20, 32, 63, 64, 65, 128, 1023, 1024, 5000} { // whatever the lowest bits are
			leads(t, p, x, pow2(n), 0, false)
			leads(t, p, x, plus(pow2(n), 1), 0, false)
			leads(t, p, x, new(big.Int).Add(pow2(n), plus(total, -1)), 0, false)
			leads(t, p, x, plus(pow2(n+1), -1), 0, false)
		}
	}
}

// P10.2: Draw

// sizeOf is how many bytes one try takes.
func sizeOf(p plain) int {
	return (p.total().BitLen() + 7) / 8
}

func TestDrawByHand(t *testing.T) {
	x := plain{3, 2, 2, 3}.made(t) // 4 6 9 6 4: 29 words of 5 bits
	draws(t, x, "", 1, 1, api.OK, 1)
	draws(t, x, "\x03", 1, 1, api.OK, 1)
	draws(t, x, "\x04", 1, 2, api.OK, 1)
	draws(t, x, "\x09", 1, 2, api.OK, 1)
	draws(t, x, "\x0a", 1, 3, api.OK, 1)
	draws(t, x, "\x12", 1, 3, api.OK, 1)
	draws(t, x, "\x13", 1, 4, api.OK, 1)
	draws(t, x, "\x19", 1, 5, api.OK, 1)
	draws(t, x, "\x1c", 1, 5, api.OK, 1)
	draws(t, x, "\x1d", 1, 0, api.ErrCap, 1)
	draws(t, x, "\xea", 1, 3, api.OK, 1) // what is above the 5 bits does not count
	draws(t, x, "\x1d\x1e\x1f\x0a", 4, 3, api.OK, 4)
	draws(t, x, "\x1d\x1e\x1f\x0a", 3, 0, api.ErrCap, 3)
	draws(t, x, "\x1d\x1e", 3, 1, api.OK, 3) // the third try is a nought behind the end
}

func TestDrawOfEachNumbersFirstAndLastWord(t *testing.T) {
	for _, p := range tables() {
		x, size := p.made(t), sizeOf(p)
		first := new(big.Int)
		for _, n := range p.numbers() {
			next := new(big.Int).Add(first, p.weight(n))
			draws(t, x, text(first, size)+"zz", 1, n, api.OK, size)
			draws(t, x, text(plus(next, -1), size)+"zz", 1, n, api.OK, size)
			first = next
		}
		draws(t, x, text(first, size)+"zz", 1, 0, api.ErrCap, size) // Total itself
	}
}

func TestDrawTakesWhatUnderTakes(t *testing.T) {
	for i, p := range tables() {
		x := p.made(t)
		s := some(i, 120)
		a, b := tape.New(s), tape.New(s)
		for k := range 30 {
			tries := 1 + (i+k)%3
			w, f := b.Under(of(p.total()), tries)
			want := 0
			if f == api.OK {
				want, _ = x.At(w)
			}
			if got, e := x.Draw(a, tries); got != want || e != f || a.Used() != b.Used() {
				t.Fatalf("%v: Draw(%d): %d, %d, Used %d; not %d, %d, %d", p, tries, got, e, a.Used(), want, f, b.Used())
			}
		}
		if a.Take(7) != b.Take(7) {
			t.Error(p, "the tapes part")
		}
	}
}

func TestDrawTriesNoMoreThanItMay(t *testing.T) {
	for _, p := range []plain{{2, 1, 0, 0}, {2, 1, 1, 1}, {3, 2, 2, 3}, {7, 1, 3, 5}, {16, 15, 4, 4}} {
		x, size := p.made(t), sizeOf(p)
		miss, hit := text(p.total(), size), text(plus(p.total(), -1), size)
		for tries := 1; tries <= api.MaxTries; tries++ {
			for misses := range api.MaxTries + 3 {
				s := strings.Repeat(miss, misses) + hit + hit
				if misses < tries {
					draws(t, x, s, tries, p.middle+p.reach, api.OK, size*(misses+1))
				} else {
					draws(t, x, s, tries, 0, api.ErrCap, size*tries)
				}
			}
		}
	}
}

func TestDrawOfTriesThatMayNotBe(t *testing.T) {
	for _, p := range []plain{{2, 1, 0, 0}, {2, 1, 0, 8}, {3, 2, 2, 3}, {16, 15, 4, 4}} {
		x := p.made(t)
		for _, tries := range append(far(), 0, api.MaxTries+1) {
			for _, s := range []string{"", "abc", strings.Repeat("\xff", 99)} {
				draws(t, x, s, tries, 0, api.ErrArg, 0)
			}
		}
		draws(t, x, "", api.MaxTries, p.middle-p.reach, api.OK, sizeOf(p))
		draws(t, x, strings.Repeat("\xff", 99), api.MaxTries, 0, api.ErrCap, api.MaxTries*sizeOf(p))
	}
}

func TestDrawWithoutATape(t *testing.T) {
	for _, p := range tables() {
		for _, tries := range []int{-1, 0, 1, api.MaxTries, api.MaxTries + 1} {
			if n, e := p.made(t).Draw(nil, tries); n != 0 || e != api.ErrArg {
				t.Error(p, tries, n, e)
			}
		}
	}
}

func TestDrawGoesOnBehindWhatWasTaken(t *testing.T) {
	x := plain{2, 1, 1, 1}.made(t) // 1 2 1: 4 words; Total has 3 bits
	p := tape.New("ab\x05\x06\x03\xf9z")
	p.Take(2)
	for i, want := range []struct {
		tries, n int
		e        api.Errno
		used     int
	}{{2, 0, api.ErrCap, 4}, {0, 0, api.ErrArg, 4}, {1, 2, api.OK, 5}, {17, 0, api.ErrArg, 5}, {1, 1, api.OK, 6}, {3, 1, api.OK, 7}, {1, 0, api.OK, 8}, {1, 0, api.OK, 9}} {
		if n, e := x.Draw(p, want.tries); n != want.n || e != want.e || p.Used() != want.used {
			t.Error(i, n, e, p.Used())
		}
	}
}

// P10.3

func TestJustItsWeightOfWordsLeadToEach(t *testing.T) {
	for _, p := range tables() {
		total := int(p.total().Int64())
		if total > 400 {
			continue
		}
		x := p.made(t)
		counts := map[int]int{}
		last := p.middle - p.reach
		for w := range total {
			n, ok := x.At(nat.Of(uint64(w)))
			if !ok || n < last || n > last+1 { // one row a number, the numbers in a row
				t.Fatal(p, w, n, ok)
			}
			last = n
			counts[n]++
		}
		for n := -1; n <= 10; n++ {
			if got, ok := x.Weight(n).Low(); !ok || got != uint64(counts[n]) {
				t.Error(p, n, got, counts[n])
			}
		}
	}
}

func TestJustItsWeightOfDrawsLeadToEach(t *testing.T) {
	for _, p := range tables() {
		if sizeOf(p) > 1 {
			continue
		}
		x := p.made(t)
		bits := p.total().BitLen()
		counts, misses := map[int]int{}, 0
		for v := range 1 << bits {
			n, e := x.Draw(tape.New(string([]byte{byte(v)})), 1)
			if e == api.OK {
				counts[n]++
			} else {
				misses++
			}
		}
		for n := -1; n <= 10; n++ {
			if p.weight(n).Int64() != int64(counts[n]) {
				t.Error(p, n, counts[n])
			}
		}
		if plus(p.total(), int64(misses)).Cmp(pow2(bits)) != 0 {
			t.Error(p, misses)
		}
	}
}

func TestNeighboursPartByTheRatio(t *testing.T) {
	for _, p := range tables() {
		x := p.made(t)
		num, den := nat.Of(uint64(p.num)), nat.Of(uint64(p.den))
		for n := x.Least(); n < x.Most(); n++ {
			further, nearer := n, n+1
			if n >= p.middle {
				further, nearer = n+1, n
			}
			if nat.Cmp(nat.Mul(x.Weight(further), num), nat.Mul(x.Weight(nearer), den)) != 0 {
				t.Error(p, n, x.Weight(further).Text(), x.Weight(nearer).Text())
			}
			if nat.Cmp(x.Weight(further), x.Weight(nearer)) >= 0 {
				t.Error(p, n, "not rarer")
			}
		}
	}
}

// Rules that hold everywhere

// spoil writes over all that a number keeps behind a slice, its spare room too.
func spoil(n *nat.Nat) {
	v := reflect.ValueOf(n).Elem()
	for i := range v.NumField() {
		if f := v.Field(i); f.Kind() == reflect.Slice && f.Cap() > 0 {
			room := unsafe.Slice((*byte)(f.UnsafePointer()), f.Cap()*int(f.Type().Elem().Size()))
			for k := range room {
				room[k] = 0xa5
			}
		}
	}
}

// told is all that a table tells of its numbers, one behind the other.
func told(x *table.Table) []nat.Nat {
	l := []nat.Nat{x.Total(), x.Edge(), x.Total(), x.Edge()}
	for n := -1; n <= 9; n++ {
		l = append(l, x.Weight(n), x.Weight(n))
	}
	return l
}

// asItWas holds everything that a table answers.
func asItWas(t *testing.T, p plain, x *table.Table) {
	t.Helper()
	is(t, "Total", x.Total(), p.total())
	is(t, "Edge", x.Edge(), p.weight(p.middle-p.reach))
	for n := -1; n <= 9; n++ {
		is(t, n, x.Weight(n), p.weight(n))
	}
	if x.Least() != p.middle-p.reach || x.Most() != p.middle+p.reach {
		t.Error(p, x.Least(), x.Most())
	}
	leads(t, p, x, new(big.Int), p.middle-p.reach, true)
	leads(t, p, x, plus(p.total(), -1), p.middle+p.reach, true)
	leads(t, p, x, p.total(), 0, false)
	draws(t, x, "", 1, p.middle-p.reach, api.OK, sizeOf(p))
}

func TestWhatIsToldIsNewMemory(t *testing.T) {
	for _, p := range tables() {
		x := p.made(t)
		l := told(x)
		var was []string
		for _, n := range l {
			was = append(was, n.Text())
		}
		for i := range l {
			for k := i; k < len(l); k++ {
				if l[k].Text() != was[k] {
					t.Fatal(p, i, k, "shared")
				}
			}
			spoil(&l[i])
		}
		asItWas(t, p, x)
	}
}

func TestSpoilSpoils(t *testing.T) {
	n := nat.Of(7)
	if spoil(&n); n.Text() == "7" {
		t.Error("nothing was written over")
	}
}

func TestTheWordHandedInIsNeitherChangedNorKept(t *testing.T) {
	for _, p := range tables() {
		x := p.made(t)
		for _, n := range []*big.Int{new(big.Int), plus(p.total(), -1), p.total(), pow2(64), plus(pow2(130), 7)} {
			w := of(n)
			x.At(w)
			is(t, p, w, n)
			spoil(&w)
		}
		asItWas(t, p, x)
	}
}

func TestTablesAreAsTheyWere(t *testing.T) {
	a, b := plain{3, 2, 2, 3}, plain{16, 15, 4, 4}
	x, y := a.made(t), b.made(t)
	q := tape.New(some(1, 200))
	for i := range 60 {
		x.Draw(q, i%18)
		y.Draw(q, i%18)
		x.Draw(nil, 1)
		x.At(nat.Of(uint64(i)))
		y.At(nat.Of(uint64(10000 * i)))
		x.Weight(i)
		table.New(2, 1, i, i) // nor do others change them
		asItWas(t, a, x)
		asItWas(t, b, y)
	}
	nat.Add(x.Total(), y.Total())
	nat.Mul(x.Edge(), y.Edge(), x.Weight(3))
	asItWas(t, a, x)
	asItWas(t, b, y)
	if z := a.made(t); z == x {
		t.Error("one table, made twice")
	}
}
