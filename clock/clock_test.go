package clock_test

import (
	"math"
	"math/rand/v2"
	"testing"

	"billet/clock"
)

// pass is so many ticks.
func pass(c *clock.Clock, n int) {
	for range n {
		c.Pass()
	}
}

// says holds what a clock tells against what it should.
func says(t *testing.T, what string, c *clock.Clock, now int, waits, over bool) {
	t.Helper()
	if c.Now() != now || c.Waits() != waits || c.Over() != over {
		t.Errorf("%s: Now %d, Waits %v, Over %v; want %d, %v, %v", what, c.Now(), c.Waits(), c.Over(), now, waits, over)
	}
}

// The chapter's examples.

func TestExamples(t *testing.T) {
	var c clock.Clock
	c.Wait(2)
	c.Pass()
	c.Pass()
	says(t, "Wait(2), Pass, Pass", &c, 2, true, true)

	var d clock.Clock
	d.Wait(0)
	says(t, "Wait(0)", &d, 0, true, true)
}

// P20.1: the zero value.

func TestZeroIsAtNoughtAndWaitsForNothing(t *testing.T) {
	var c clock.Clock
	says(t, "zero", &c, 0, false, false)
	says(t, "a literal", &clock.Clock{}, 0, false, false)
	says(t, "new", new(clock.Clock), 0, false, false)
}

func TestZeroThatOnlyPassesIsNeverOver(t *testing.T) {
	var c clock.Clock
	for n := 1; n <= 3000; n++ {
		c.Pass()
		says(t, "passes", &c, n, false, false)
	}
}

func TestRestOfZero(t *testing.T) {
	var c clock.Clock
	c.Rest()
	says(t, "Rest", &c, 0, false, false)
	c.Pass()
	says(t, "Rest, Pass", &c, 1, false, false)
}

// P20.1: how many are waited for.

// waits are numbers to wait for, and how many are waited for then.
var waits = []struct{ asked, held int }{
	{0, 0}, {1, 1}, {2, 2}, {3, 3}, {7, 7}, {59, 59}, {60, 60}, {61, 61}, {120, 120}, {121, 121},
	{127, 127}, {128, 128}, {255, 255}, {256, 256}, {257, 257}, {511, 511}, {512, 512}, {998, 998}, {999, 999},
	{1000, 1000}, {1001, 1000}, {1002, 1000}, {1024, 1000}, {2000, 1000}, {32767, 1000}, {65535, 1000}, {65536, 1000}, {65537, 1000},
	{math.MaxInt32, 1000}, {math.MaxInt32 + 1, 1000}, {math.MaxUint32, 1000}, {math.MaxUint32 + 1, 1000}, {math.MaxUint32 + 2, 1000},
	{math.MaxInt - 1000, 1000}, {math.MaxInt - 1, 1000}, {math.MaxInt, 1000},
	{-1, 0}, {-2, 0}, {-5, 0}, {-60, 0}, {-255, 0}, {-256, 0}, {-999, 0}, {-1000, 0}, {-1001, 0},
	{math.MinInt32, 0}, {math.MinInt32 - 1, 0}, {-math.MaxUint32, 0}, {-math.MaxUint32 - 1, 0}, {math.MinInt + 1, 0}, {math.MinInt, 0},
}

// tillOver holds that a clock is over just when so many ticks passed from now on, and stays so.
func tillOver(t *testing.T, c *clock.Clock, asked, held int) {
	t.Helper()
	begun := c.Now()
	for n := range held + 3 {
		if c.Now() != begun+n || !c.Waits() || c.Over() != (n >= held) {
			t.Errorf("Wait(%d) at %d, %d ticks on: Now %d, Waits %v, Over %v", asked, begun, n, c.Now(), c.Waits(), c.Over())
			return
		}
		c.Pass()
	}
}

func TestWaitIsOverWhenSoManyPassed(t *testing.T) {
	for _, w := range waits {
		var c clock.Clock
		c.Wait(w.asked)
		tillOver(t, &c, w.asked, w.held)
	}
}

func TestWaitOfEachNumber(t *testing.T) {
	for n := -10; n <= 1010; n++ {
		var c clock.Clock
		c.Wait(n)
		tillOver(t, &c, n, min(max(n, 0), 1000))
	}
}

// What is waited for counts from the tick of its Wait: nothing that passed ahead of it does.

func TestWaitCountsFromItsOwnTick(t *testing.T) {
	for _, before := range []int{1, 2, 3, 10, 999, 1000, 1001, 2500} {
		for _, w := range waits {
			var c clock.Clock
			pass(&c, before)
			c.Wait(w.asked)
			tillOver(t, &c, w.asked, w.held)
		}
	}
}

// One clock that goes through all of them: each Wait is its own.
func TestWaitBehindTheEndOfTheOtherOne(t *testing.T) {
	var c clock.Clock
	for range 2 {
		for _, w := range waits {
			c.Wait(w.asked)
			tillOver(t, &c, w.asked, w.held)
		}
	}
}

func TestOverStaysBehindTheEnd(t *testing.T) {
	for _, n := range []int{0, 1, 5, 1000} {
		var c clock.Clock
		c.Wait(n)
		pass(&c, n)
		for i := range 5000 {
			if !c.Over() || !c.Waits() || c.Now() != n+i {
				t.Fatalf("Wait(%d), %d ticks behind its end: Now %d, Waits %v, Over %v", n, i, c.Now(), c.Waits(), c.Over())
			}
			c.Pass()
		}
	}
}

// P20.1: whatever was waited for.

func TestWaitAheadOfTheOtherOnesEnd(t *testing.T) {
	for _, first := range []int{1, 2, 5, 30, 1000, 5000} {
		for _, passed := range []int{0, 1, 2, 4, 29} {
			if passed >= first {
				continue
			}
			for _, second := range []int{-3, 0, 1, 2, 4, 5, 6, 100, 1000, 1001} {
				var c clock.Clock
				c.Wait(first)
				pass(&c, passed)
				if c.Over() {
					t.Errorf("Wait(%d) is over at %d", first, passed)
				}
				c.Wait(second)
				tillOver(t, &c, second, min(max(second, 0), 1000))
			}
		}
	}
}

func TestWaitAtTheOtherOnesEnd(t *testing.T) {
	var c clock.Clock
	c.Wait(3)
	pass(&c, 3)
	says(t, "at its end", &c, 3, true, true)
	c.Wait(3)
	says(t, "waited for anew", &c, 3, true, false)
	pass(&c, 2)
	says(t, "a tick ahead of the end", &c, 5, true, false)
	c.Pass()
	says(t, "at the end", &c, 6, true, true)
}

func TestWaitEachTickIsNeverOver(t *testing.T) {
	var c clock.Clock
	for n := range 3000 {
		c.Wait(2)
		c.Pass()
		says(t, "Wait(2), Pass", &c, n+1, true, false)
	}
}

func TestWaitTwiceIsTheLastOne(t *testing.T) {
	var c clock.Clock
	c.Wait(5)
	c.Wait(2)
	pass(&c, 2)
	says(t, "5, then 2", &c, 2, true, true)
	c.Wait(2)
	c.Wait(5)
	pass(&c, 4)
	says(t, "2, then 5: a tick ahead", &c, 6, true, false)
	c.Pass()
	says(t, "2, then 5", &c, 7, true, true)
	c.Wait(5)
	c.Wait(0)
	says(t, "5, then 0", &c, 7, true, true)
	c.Wait(0)
	c.Wait(1)
	says(t, "0, then 1", &c, 7, true, false)
}

// P20.1: Rest.

func TestRestWaitsForNothing(t *testing.T) {
	for _, w := range waits {
		for _, passed := range []int{0, 1, w.held, w.held + 1} {
			var c clock.Clock
			pass(&c, 2)
			c.Wait(w.asked)
			pass(&c, passed)
			c.Rest()
			for n := range 5 {
				says(t, "Rest", &c, 2+passed+n, false, false)
				c.Pass()
			}
			pass(&c, 1100)
			says(t, "long behind Rest", &c, 2+passed+5+1100, false, false)
		}
	}
}

func TestRestThenWait(t *testing.T) {
	for _, w := range waits {
		var c clock.Clock
		c.Wait(4)
		pass(&c, 2)
		c.Rest()
		pass(&c, 7)
		c.Wait(w.asked)
		tillOver(t, &c, w.asked, w.held)
	}
}

func TestRestTwice(t *testing.T) {
	var c clock.Clock
	pass(&c, 3)
	c.Wait(1)
	c.Rest()
	c.Rest()
	says(t, "Rest, Rest", &c, 3, false, false)
	c.Wait(1)
	says(t, "Wait(1)", &c, 3, true, false)
	c.Pass()
	says(t, "Wait(1), Pass", &c, 4, true, true)
}

// P20.1: Now counts Pass alone.

func TestOnlyPassCounts(t *testing.T) {
	var c clock.Clock
	for n := range 200 {
		for range n % 4 {
			c.Wait(n - 20)
			if c.Now() != n {
				t.Fatal("Wait is a tick", n, c.Now())
			}
			c.Rest()
			if c.Now() != n {
				t.Fatal("Rest is a tick", n, c.Now())
			}
		}
		c.Pass()
	}
	if c.Now() != 200 {
		t.Error("Now", c.Now())
	}
}

func TestToAskChangesNothing(t *testing.T) {
	var asked, silent clock.Clock
	for n := range 50 {
		if n%9 == 2 {
			asked.Wait(4)
			silent.Wait(4)
		}
		if n%9 == 8 {
			asked.Rest()
			silent.Rest()
		}
		for range n % 5 {
			asked.Now()
			asked.Waits()
			asked.Over()
		}
		asked.Pass()
		silent.Pass()
		if asked != silent {
			t.Fatal("a clock that was asked is another one", n)
		}
	}
}

// P20.1: of nil.

func TestNil(t *testing.T) {
	var none *clock.Clock
	calls := []struct {
		name string
		call func()
	}{
		{"nothing", func() {}},
		{"Pass", func() { none.Pass() }},
		{"Wait(0)", func() { none.Wait(0) }},
		{"Wait(1)", func() { none.Wait(1) }},
		{"Wait(5000)", func() { none.Wait(5000) }},
		{"Wait(-5)", func() { none.Wait(-5) }},
		{"Rest", func() { none.Rest() }},
	}
	for _, x := range calls {
		x.call()
		says(t, "nil: "+x.name, none, 0, false, false)
		none.Pass()
		says(t, "nil: "+x.name+", Pass", none, 0, false, false)
	}
	if none != nil {
		t.Error("nil is another one")
	}
}

// Random courses, against a clock that counts down.

// downward is a clock by another reckoning: what is waited for grows less with each tick.
type downward struct {
	now, left int
	waits     bool
}

func (d *downward) pass() {
	d.now++
	if d.left > 0 {
		d.left--
	}
}

func (d *downward) wait(n int) {
	d.waits = true
	switch {
	case n < 0:
		d.left = 0
	case n > 1000:
		d.left = 1000
	default:
		d.left = n
	}
}

func TestCourses(t *testing.T) {
	for seed := range uint64(300) {
		r := rand.New(rand.NewPCG(seed, 20))
		var c clock.Clock
		var d downward
		for step := range 400 {
			switch r.IntN(12) {
			case 0:
				n := waits[r.IntN(len(waits))].asked
				c.Wait(n)
				d.wait(n)
			case 1:
				n := r.IntN(12) - 2
				c.Wait(n)
				d.wait(n)
			case 2:
				c.Rest()
				d.waits = false
			case 3:
				for range r.IntN(300) {
					c.Pass()
					d.pass()
				}
			default:
				c.Pass()
				d.pass()
			}
			if c.Now() != d.now || c.Waits() != d.waits || c.Over() != (d.waits && d.left == 0) {
				t.Fatalf("course %d, step %d: Now %d, Waits %v, Over %v; want %+v", seed, step, c.Now(), c.Waits(), c.Over(), d)
			}
		}
	}
}

// As many ticks as may pass: what is waited for at the last ones reaches beyond a number of 32 bits.
func TestManyTicks(t *testing.T) {
	if testing.Short() {
		t.Skip("2^31 - 1 ticks")
	}
	var c clock.Clock
	pass(&c, math.MaxInt32-1000)
	c.Wait(1000)
	pass(&c, 999)
	says(t, "a tick ahead of the last one", &c, math.MaxInt32-1, true, false)
	c.Wait(2)
	c.Pass()
	says(t, "the last one, one is waited for", &c, math.MaxInt32, true, false)
	c.Wait(1000)
	says(t, "the last one, all are waited for", &c, math.MaxInt32, true, false)
	c.Wait(0)
	says(t, "the last one, none is waited for", &c, math.MaxInt32, true, true)
	c.Rest()
	says(t, "the last one, at rest", &c, math.MaxInt32, false, false)
}

// Embedded in other types.

// machine embeds a clock, as a server does; its own fields and calls bear names of a machine's.
type machine struct {
	clock.Clock
	round uint64
	wait  int
}

func (m *machine) tick() bool {
	m.Pass()
	if m.Over() {
		m.Rest()
		m.round++
		return true
	}
	return false
}

func TestEmbedded(t *testing.T) {
	m := machine{wait: 3}
	if m.Now() != 0 || m.Waits() || m.Over() {
		t.Error("a machine's clock is not at 0")
	}
	for round := range 20 {
		m.Wait(m.wait)
		for n := range m.wait {
			if ended := m.tick(); ended != (n == m.wait-1) {
				t.Fatalf("round %d, tick %d: ended is %v", round, n, ended)
			}
		}
		if m.Waits() || m.Over() || m.Now() != 3*(round+1) || m.round != uint64(round+1) {
			t.Fatalf("round %d: Now %d, Waits %v, Over %v, rounds %d", round, m.Now(), m.Waits(), m.Over(), m.round)
		}
	}
	if m.Clock.Now() != m.Now() {
		t.Error("the clock and the machine part")
	}
}

// pointed embeds a pointer; without a clock it is a nil one.
type pointed struct{ *clock.Clock }

func TestEmbeddedPointer(t *testing.T) {
	var c clock.Clock
	a, b := pointed{&c}, pointed{&c}
	a.Wait(1)
	b.Pass()
	if !a.Over() || a.Now() != 1 || !c.Over() {
		t.Error("two machines of one clock part")
	}

	var none pointed
	none.Pass()
	none.Wait(0)
	none.Rest()
	if none.Now() != 0 || none.Waits() || none.Over() {
		t.Error("a machine without a clock")
	}
}

// deep embeds what embeds a clock, beside another embedded type.
type deep struct {
	named
	*machine
}

type named struct{ name string }

func TestEmbeddedTwice(t *testing.T) {
	d := deep{named: named{"a machine"}, machine: &machine{}}
	d.Wait(2)
	d.Pass()
	if d.Over() || !d.Waits() || d.Now() != 1 {
		t.Error("ahead of the end")
	}
	d.Pass()
	if !d.Over() {
		t.Error("at the end")
	}
}

// ticker is what a machine of clocks may ask for.
type ticker interface {
	Pass()
	Now() int
	Wait(int)
	Rest()
	Waits() bool
	Over() bool
}

var (
	_ ticker = (*clock.Clock)(nil)
	_ ticker = (*machine)(nil)
	_ ticker = pointed{}
)

func TestThroughAnInterface(t *testing.T) {
	for _, x := range []ticker{&clock.Clock{}, &machine{}, pointed{&clock.Clock{}}, deep{machine: &machine{}}} {
		x.Wait(1)
		before := x.Over()
		x.Pass()
		if before || !x.Over() || !x.Waits() || x.Now() != 1 {
			t.Errorf("%T: Now %d, Waits %v, Over %v", x, x.Now(), x.Waits(), x.Over())
		}
		x.Rest()
		if x.Over() || x.Waits() || x.Now() != 1 {
			t.Errorf("%T at rest: Now %d, Waits %v, Over %v", x, x.Now(), x.Waits(), x.Over())
		}
	}
}

// Rules that hold everywhere: each clock is its own, and answers hang on what it has been through alone.

func TestClocksAreApart(t *testing.T) {
	var a, b clock.Clock
	a.Wait(1)
	pass(&a, 5)
	says(t, "the other one", &b, 0, false, false)
	b.Wait(7)
	b.Pass()
	says(t, "the one", &a, 5, true, true)
	says(t, "the other one", &b, 1, true, false)
	a.Rest()
	says(t, "the other one", &b, 1, true, false)
}

func TestCopyGoesOnByItself(t *testing.T) {
	m := machine{}
	pass(&m.Clock, 4)
	m.Wait(3)
	m.Pass()
	other := m
	pass(&other.Clock, 2)
	says(t, "the copy", &other.Clock, 7, true, true)
	says(t, "the machine", &m.Clock, 5, true, false)
	m.Rest()
	says(t, "the copy", &other.Clock, 7, true, true)
	other.Wait(9)
	says(t, "the machine", &m.Clock, 5, false, false)
}

func TestSameCourseSameClock(t *testing.T) {
	course := func() []int {
		var c clock.Clock
		var told []int
		for n := range 100 {
			if n%7 == 3 {
				c.Wait(n % 5)
			}
			if n%13 == 5 {
				c.Rest()
			}
			c.Pass()
			told = append(told, c.Now())
			if c.Over() {
				told = append(told, -1)
			}
			if c.Waits() {
				told = append(told, -2)
			}
		}
		return told
	}
	first := course()
	for range 5 {
		again := course()
		if len(again) != len(first) {
			t.Fatal("another course")
		}
		for i, v := range first {
			if again[i] != v {
				t.Fatal("another answer", i)
			}
		}
	}
}
