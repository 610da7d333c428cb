package front_test

import (
	"crypto/sha256"
	"fmt"
	"math"
	"math/rand/v2"
	"slices"
	"strings"
	"testing"
	"unsafe"

	"billet/api"
	"billet/book"
	"billet/curve"
	"billet/front"
	"billet/hop"
	"billet/onion"
	"billet/table"
	"billet/tape"
	"billet/wire"
)

// some is n bytes that look like chance, the same for the same seed.
func some(seed, n int) string {
	var b []byte
	for i := 0; len(b) < n; i++ {
		h := sha256.Sum256(fmt.Append(nil, seed, i))
		b = append(b, h[:]...)
	}
	return string(b[:n])
}

func nought(n int) string {
	return strings.Repeat("\x00", n)
}

// Sizes: of an onion that comes to server 1, and to server 2; of the reply that server 1 gives, and server 2.
const (
	firstOnion, secondOnion = 196, 148
	firstReply, secondReply = 84, 68
)

func secrets() []api.Key {
	var l []api.Key
	for i := range 3 {
		l = append(l, api.Key([]byte(some(900+i, 32))))
	}
	return l
}

func pubs() []api.Key {
	var l []api.Key
	for _, k := range secrets() {
		l = append(l, curve.Public(k))
	}
	return l
}

// still is a table of the number 0 alone; few is one of 0, 1, 2, drawn by the bytes 0, 1, 3.
func still() *table.Table {
	t, _ := table.New(2, 1, 0, 0)
	return t
}

func few() *table.Table {
	t, _ := table.New(2, 1, 1, 1)
	return t
}

// server is the first server's hop, which lacks nothing.
func server(x *table.Table, s string) hop.Hop {
	return hop.Hop{At: 1, Secret: secrets()[0], Pubs: pubs(), Honest: []bool{true, true, true}, Table: x, Tape: tape.New(s), Tries: 4}
}

// lucky is a tape's text of which no draw needs a second try: covers' numbers of one round, and bytes for all else.
func lucky(ones, twos byte, seed int) string {
	b := []byte(some(seed, 3000))
	for i := range b {
		b[i] &= 0x7f
	}
	return string([]byte{ones, twos}) + string(b)
}

func made(t *testing.T, h hop.Hop, users, collect, wait int) *front.Front {
	t.Helper()
	f, e := front.New(h, users, collect, wait)
	if f == nil || e != api.OK {
		t.Fatalf("New of %d, %d, %d: %d", users, collect, wait, e)
	}
	return f
}

// onions are one for each of n users in a round, and what each of them opens its answer by.
func onions(n int, round uint64) (all []onion.Wrapped) {
	for i := range n {
		w, e := onion.Wrap(nil, tape.New(some(3000+i, 96)), round, 1, pubs(), make([]bool, 3), some(i, 52))
		if e != api.OK {
			panic(e)
		}
		all = append(all, w)
	}
	return all
}

// Frames.

func ask(u int, round uint64, s string) api.Frame {
	return api.Frame{From: 4 + u, To: 1, Kind: api.Ask, Round: round, Data: s}
}

func replies(round uint64, l ...string) api.Frame {
	return api.Frame{From: 2, To: 1, Kind: api.Replies, Round: round, Data: list(secondReply, l...)}
}

func abort(round uint64) api.Frame {
	return api.Frame{From: 2, To: 1, Kind: api.Abort, Round: round}
}

// list is items of a size in a row, and ahead of them how many they are.
func list(size int, l ...string) string {
	s, e := wire.List(size, l...)
	if e != api.OK {
		panic(e)
	}
	return s
}

// toEach is a frame without data to each of so many users.
func toEach(users, kind int, round uint64) []api.Frame {
	var l []api.Frame
	for u := range users {
		l = append(l, api.Frame{From: 1, To: 4 + u, Kind: kind, Round: round})
	}
	return l
}

func batch(round uint64, on ...string) []api.Frame {
	return []api.Frame{{From: 1, To: 2, Kind: api.Batch, Round: round, Data: list(secondOnion, on...)}}
}

// forReplies are n replies that come from server 2, unlike all.
func forReplies(n, seed int) []string {
	var l []string
	for i := range n {
		l = append(l, some(100000*(1+seed)+i, secondReply))
	}
	return l
}

// short is frames as they are told where they are not the ones that should be.
func short(l []api.Frame) string {
	var b strings.Builder
	for _, x := range l {
		fmt.Fprintf(&b, "{%d to %d, kind %d, round %d, %d bytes}", x.From, x.To, x.Kind, x.Round, len(x.Data))
	}
	return b.String()
}

// sends holds what a front told against what it should.
func sends(t *testing.T, what string, got, want []api.Frame) {
	t.Helper()
	if !slices.Equal(got, want) {
		t.Fatalf("%s: %s; want %s", what, short(got), short(want))
	}
}

// stands holds a front's round and phase against what they should be.
func stands(t *testing.T, what string, f *front.Front, round uint64, phase int) {
	t.Helper()
	if f.Round() != round || f.Phase() != phase {
		t.Fatalf("%s: round %d, phase %d; want %d, %d", what, f.Round(), f.Phase(), round, phase)
	}
}

// idle holds that a front tells nothing in so many ticks.
func idle(t *testing.T, what string, f *front.Front, ticks int) {
	t.Helper()
	for n := range ticks {
		if l := f.Tick(); len(l) != 0 {
			t.Fatalf("%s: at tick %d of %d: %s", what, n+1, ticks, short(l))
		}
	}
}

// deaf holds that nothing comes of frames, and that nothing changes.
func deaf(t *testing.T, what string, f *front.Front, l ...api.Frame) {
	t.Helper()
	round, phase := f.Round(), f.Phase()
	for i, x := range l {
		sends(t, fmt.Sprint(what, ", frame ", i, " ", short([]api.Frame{x})), f.Hear(x), nil)
		stands(t, fmt.Sprint(what, ", frame ", i, " ", short([]api.Frame{x})), f, round, phase)
	}
}

// begun is a front whose first round has begun.
func begun(t *testing.T, h hop.Hop, users, collect, wait int) *front.Front {
	t.Helper()
	f := made(t, h, users, collect, wait)
	sends(t, "the first tick", f.Tick(), toEach(users, api.Start, 1))
	stands(t, "the first tick", f, 1, 1)
	return f
}

// twin is what goes on, and the work, where another hop that is like the front's is asked.
func twin(t *testing.T, h hop.Hop, round uint64, l ...string) (*hop.Work, []string) {
	t.Helper()
	w, on, e := h.Forward(round, l...)
	if e != api.OK {
		t.Fatal(e)
	}
	return w, on
}

func back(t *testing.T, w *hop.Work, l ...string) []string {
	t.Helper()
	r, e := w.Back(l...)
	if e != api.OK {
		t.Fatal(e)
	}
	return r
}

// answers are the frames with the replies to who asked.
func answers(round uint64, who []int, l []string) []api.Frame {
	var all []api.Frame
	for i, u := range who {
		all = append(all, api.Frame{From: 1, To: 4 + u, Kind: api.Answer, Round: round, Data: l[i]})
	}
	return all
}

// The chapter's examples.

func TestExamples(t *testing.T) {
	f := made(t, server(few(), lucky(1, 1, 1)), 2, 3, 2)
	sends(t, "example 1", f.Tick(), []api.Frame{{From: 1, To: 4, Kind: api.Start, Round: 1}, {From: 1, To: 5, Kind: api.Start, Round: 1}})

	all := onions(2, 1)
	sends(t, "one has asked", f.Hear(ask(0, 1, all[0].Onion)), nil)
	l := f.Hear(ask(1, 1, all[1].Onion))
	_, on := twin(t, server(few(), lucky(1, 1, 1)), 1, all[0].Onion, all[1].Onion)
	sends(t, "example 2", l, batch(1, on...))
	if len(l[0].Data) != 2+5*secondOnion {
		t.Error(len(l[0].Data))
	}

	f = made(t, server(few(), lucky(1, 1, 1)), 2, 3, 2)
	f.Tick()
	idle(t, "example 3", f, 2)
	_, on = twin(t, server(few(), lucky(1, 1, 1)), 1)
	sends(t, "example 3, the fourth tick", f.Tick(), batch(1, on...))
}

// P21.1: New.

// lacking are hops that lack something, each in one way.
func lacking() map[string]hop.Hop {
	l := map[string]hop.Hop{}
	with := func(name string, turn func(h *hop.Hop)) {
		h := server(few(), lucky(1, 1, 1))
		turn(&h)
		l[name] = h
	}
	for _, n := range []int{0, 2, 3, 4, -1, 1 + 256, 1 + 1<<32, math.MinInt, math.MinInt + 1, math.MaxInt} {
		with(fmt.Sprint("At ", n), func(h *hop.Hop) { h.At = n })
	}
	for _, n := range []int{0, 1, 2, 4, 6, 3 + 256} {
		with(fmt.Sprint("pubs ", n), func(h *hop.Hop) { h.Pubs = slices.Repeat(h.Pubs, 100)[:n] })
		with(fmt.Sprint("honest ", n), func(h *hop.Hop) { h.Honest = slices.Repeat(h.Honest, 100)[:n] })
		with(fmt.Sprint("both ", n), func(h *hop.Hop) {
			h.Pubs, h.Honest = slices.Repeat(h.Pubs, 100)[:n], slices.Repeat(h.Honest, 100)[:n]
		})
	}
	with("no pubs", func(h *hop.Hop) { h.Pubs = nil })
	with("no honest", func(h *hop.Hop) { h.Honest = nil })
	with("no lists", func(h *hop.Hop) { h.Pubs, h.Honest = nil, nil })
	with("no table", func(h *hop.Hop) { h.Table = nil })
	with("no tape", func(h *hop.Hop) { h.Tape = nil })
	with("neither", func(h *hop.Hop) { h.Table, h.Tape = nil, nil })
	for _, n := range []int{0, -1, -4, 17, 18, 4 + 256, 4 + 1<<32, math.MinInt, math.MinInt + 4, math.MaxInt} {
		with(fmt.Sprint("tries ", n), func(h *hop.Hop) { h.Tries = n })
	}
	with("all", func(h *hop.Hop) { *h = hop.Hop{} })
	with("all but At", func(h *hop.Hop) { *h = hop.Hop{At: 1} })
	return l
}

func refused(t *testing.T, what string, h hop.Hop, users, collect, wait int) {
	t.Helper()
	if f, e := front.New(h, users, collect, wait); f != nil || e != api.ErrArg {
		t.Errorf("%s: New of %d, %d, %d: a front: %v, %d", what, users, collect, wait, f != nil, e)
	}
	if h.Tape.Used() != 0 {
		t.Errorf("%s: taken from the tape: %d", what, h.Tape.Used())
	}
}

func TestNewOfAHopThatLacksSomething(t *testing.T) {
	for name, h := range lacking() {
		refused(t, name, h, 1, 1, 1)
		refused(t, name, h, 6, 60, 60)
		refused(t, name, h, 0, 0, 0)
		refused(t, name, h, 7, 61, 61)
	}
}

// beyond are numbers out of bounds that are from 1 to most.
func beyond(most int) []int {
	return []int{0, -1, -2, -most, most + 1, most + 2, 2 * most, 256, 257, 256 + most, 65536, 65537,
		math.MaxInt32, math.MaxUint32, math.MaxUint32 + 2, math.MinInt32, math.MinInt, math.MinInt + 1, math.MaxInt - 1, math.MaxInt}
}

func TestNewOfNumbersOutOfBounds(t *testing.T) {
	h := server(few(), "")
	for _, n := range beyond(6) {
		refused(t, "users", h, n, 1, 1)
		refused(t, "users", h, n, 60, 60)
	}
	for _, n := range beyond(60) {
		for _, users := range []int{1, 2, 6} {
			refused(t, "collect", h, users, n, 1)
			refused(t, "collect", h, users, n, 60)
			refused(t, "wait", h, users, 1, n)
			refused(t, "wait", h, users, 60, n)
			refused(t, "both", h, users, n, n)
		}
	}
}

func TestNewRestsInRoundNought(t *testing.T) {
	for users := 1; users <= 6; users++ {
		for _, collect := range []int{1, 2, 30, 59, 60} {
			for _, wait := range []int{1, 2, 30, 59, 60} {
				h := server(few(), lucky(1, 1, 1))
				f := made(t, h, users, collect, wait)
				stands(t, "New", f, 0, 0)
				if h.Tape.Used() != 0 {
					t.Error(users, collect, wait, h.Tape.Used())
				}
			}
		}
	}
	for tries := 1; tries <= 16; tries++ {
		h := server(still(), "")
		h.Tries = tries
		stands(t, "tries", made(t, h, 1, 1, 1), 0, 0)
	}
}

func TestNewOfEachTable(t *testing.T) {
	for reach := range 5 {
		for middle := reach; middle+reach <= 8; middle++ {
			x, e := table.New(2, 1, reach, middle)
			if e != api.OK {
				t.Fatal(reach, middle, e)
			}
			h := server(x, lucky(0, 0, 1))
			f := made(t, h, 6, 1, 1)
			f.Tick()
			l := f.Tick()
			_, on := twin(t, server(x, lucky(0, 0, 1)), 1)
			sends(t, fmt.Sprint(reach, middle), l, batch(1, on...))
		}
	}
}

func TestNewOfHonestAndTaken(t *testing.T) {
	// the list tells what is shared, not who may be a front; a book is not asked for
	for n := range 8 {
		h := server(few(), "")
		h.Honest = []bool{n&1 > 0, n&2 > 0, n&4 > 0}
		stands(t, "no book", made(t, h, 1, 1, 1), 0, 0)
		h.Book = book.New(n&1 > 0, tape.New(""))
		stands(t, "a book", made(t, h, 1, 1, 1), 0, 0)
	}
	h := server(few(), "")
	h.Secret, h.Pubs = api.Key{}, make([]api.Key, 3)
	stands(t, "noughts for keys", made(t, h, 1, 1, 1), 0, 0)
}

func TestOfNil(t *testing.T) {
	var f *front.Front
	for range 3 {
		if f.Round() != 0 || f.Phase() != 0 || len(f.Tick()) != 0 {
			t.Error("nil")
		}
		for kind := range 8 {
			for from := range 11 {
				for _, s := range []string{"", some(1, firstOnion), list(secondReply), list(secondReply, some(1, secondReply))} {
					if l := f.Hear(api.Frame{From: from, To: 1, Kind: kind, Data: s}); len(l) != 0 {
						t.Error(kind, from, short(l))
					}
				}
			}
		}
	}
}

// P21.2: ticks, with nobody who asks. P21.5: when a round is over.

func TestTicksOfRoundsInWhichNothingComes(t *testing.T) {
	for collect := 1; collect <= 60; collect++ {
		for wait := 1; wait <= 60; wait++ {
			users := 1 + (collect+wait)%6
			f := made(t, server(still(), ""), users, collect, wait)
			for round := uint64(1); round <= 2; round++ {
				what := fmt.Sprintf("collect %d, wait %d, round %d", collect, wait, round)
				sends(t, what, f.Tick(), toEach(users, api.Start, round))
				stands(t, what, f, round, 1)
				idle(t, what, f, collect-1)
				stands(t, what, f, round, 1)
				sends(t, what, f.Tick(), batch(round))
				stands(t, what, f, round, 2)
				idle(t, what, f, 2*wait-1)
				stands(t, what, f, round, 2)
				sends(t, what, f.Tick(), toEach(users, api.Abort, round))
				stands(t, what, f, round, 0)
			}
		}
	}
}

func TestStartsInTheUsersRow(t *testing.T) {
	for users := 1; users <= 6; users++ {
		f := made(t, server(still(), ""), users, 1, 1)
		for round := uint64(1); round <= 5; round++ {
			l := f.Tick()
			if len(l) != users {
				t.Fatal(users, short(l))
			}
			for u, x := range l {
				if x != (api.Frame{From: 1, To: 4 + u, Kind: 1, Round: round}) {
					t.Error(users, u, short(l))
				}
			}
			f.Tick()
			sends(t, "the batch's abort", f.Hear(abort(round)), toEach(users, 6, round))
		}
	}
}

func TestASecondWaitIsCountedFromTheClosing(t *testing.T) {
	// all ask at once, or later: what is left of the first wait is not waited for
	all := onions(1, 1)
	for late := range 9 {
		for wait := 1; wait <= 6; wait++ {
			f := begun(t, server(still(), lucky(0, 0, 1)), 1, 10, wait)
			idle(t, "collects", f, late)
			if l := f.Hear(ask(0, 1, all[0].Onion)); len(l) != 1 || l[0].Kind != api.Batch {
				t.Fatal(late, short(l))
			}
			stands(t, "waits", f, 1, 2)
			idle(t, "waits", f, 2*wait-1)
			sends(t, "over", f.Tick(), toEach(1, api.Abort, 1))
			stands(t, "over", f, 1, 0)
			sends(t, "the next one", f.Tick(), toEach(1, api.Start, 2))
		}
	}
}

func TestTheNextRoundBeginsAtTheTickBehindAnEnd(t *testing.T) {
	all := onions(2, 1)
	for late := range 4 {
		for _, how := range []string{"replies", "abort", "wait"} {
			f := begun(t, server(still(), lucky(0, 0, 1)), 2, 5, 2)
			f.Hear(ask(0, 1, all[0].Onion))
			f.Hear(ask(1, 1, all[1].Onion))
			stands(t, how, f, 1, 2)
			if how == "wait" {
				idle(t, how, f, 3)
				f.Tick()
			} else {
				idle(t, how, f, late)
			}
			switch how {
			case "replies":
				f.Hear(replies(1, forReplies(2, 1)...))
			case "abort":
				f.Hear(abort(1))
			}
			stands(t, how, f, 1, 0)
			sends(t, how, f.Tick(), toEach(2, api.Start, 2))
			stands(t, how, f, 2, 1)
			idle(t, how, f, 4) // its wait is a whole one
			stands(t, how, f, 2, 1)
			if l := f.Tick(); len(l) != 1 || l[0].Kind != api.Batch {
				t.Fatal(how, late, short(l))
			}
			idle(t, how, f, 3)
			sends(t, how, f.Tick(), toEach(2, api.Abort, 2))
		}
	}
}

// P21.3: Ask.

func TestWhoMayAsk(t *testing.T) {
	for users := 1; users <= 6; users++ {
		// one user never asks, so that it doesn't close at once
		for u := range users {
			f := begun(t, server(still(), lucky(0, 0, 1)), users, 2, 1)
			all := onions(6, 1)
			for _, from := range []int{0, 1, 2, 3, 4 + users, 5 + users, 9, 10, 11, -1, -4, 256 + 4, 1<<32 + 4, math.MinInt, math.MinInt + 4, math.MaxInt} {
				if from < 4 || from >= 4+users {
					deaf(t, fmt.Sprint(users, " users"), f, api.Frame{From: from, To: 1, Kind: api.Ask, Round: 1, Data: all[0].Onion})
				}
			}
			var l []string
			for v := range users {
				if v != u || users == 1 {
					l = append(l, all[v].Onion)
				}
			}
			if users == 1 {
				_, on := twin(t, server(still(), lucky(0, 0, 1)), 1, l...)
				sends(t, "the only one", f.Hear(ask(0, 1, all[0].Onion)), batch(1, on...))
				continue
			}
			for v := range users {
				if v != u {
					deaf(t, fmt.Sprint(v, " asks"), f, ask(v, 1, all[v].Onion))
				}
			}
			idle(t, "collects", f, 1)
			_, on := twin(t, server(still(), lucky(0, 0, 1)), 1, l...)
			sends(t, fmt.Sprint("all but ", u), f.Tick(), batch(1, on...))
		}
	}
}

func TestAsksThatAreNone(t *testing.T) {
	all := onions(3, 1)
	o := all[0].Onion
	var none []api.Frame
	for _, s := range []string{"", "x", o[1:], o[:195], o + "x", o + o, nought(197), nought(195), nought(148), nought(100), nought(84), nought(52), nought(196 + 256)} {
		none = append(none, ask(0, 1, s))
	}
	for _, round := range []uint64{0, 2, 3, 257, 1<<32 + 1, math.MaxUint64} {
		none = append(none, ask(0, round, o))
	}
	for _, to := range []int{0, 2, 3, 4, 5, -1, 256 + 1, 1<<32 + 1, math.MinInt + 1, math.MaxInt} {
		none = append(none, api.Frame{From: 4, To: to, Kind: api.Ask, Round: 1, Data: o})
	}
	for _, kind := range []int{0, 1, 3, 4, 5, 6, 7, -1, 256 + 2, 1<<32 + 2, math.MinInt + 2, math.MaxInt} {
		none = append(none, api.Frame{From: 4, To: 1, Kind: kind, Round: 1, Data: o})
	}
	h := server(few(), lucky(1, 1, 1))
	f := begun(t, h, 2, 3, 1)
	deaf(t, "none has asked", f, none...)
	deaf(t, "the other one asks", f, ask(1, 1, all[1].Onion))
	deaf(t, "one has asked", f, none...)
	if h.Tape.Used() != 0 {
		t.Error(h.Tape.Used())
	}
	idle(t, "collects", f, 2)
	_, on := twin(t, server(few(), lucky(1, 1, 1)), 1, all[1].Onion)
	sends(t, "one has asked", f.Tick(), batch(1, on...))

	// had they been noted, this one would not count
	f = begun(t, server(few(), lucky(1, 1, 1)), 2, 3, 1)
	deaf(t, "none has asked", f, none...)
	deaf(t, "the other one asks", f, ask(1, 1, all[1].Onion))
	_, on = twin(t, server(few(), lucky(1, 1, 1)), 1, o, all[1].Onion)
	sends(t, "both have asked", f.Hear(ask(0, 1, o)), batch(1, on...))
}

func TestTheFirstAskCounts(t *testing.T) {
	all := onions(4, 1)
	for _, first := range []string{all[0].Onion, nought(196), some(5, 196), "\x00" + some(6, 195)} {
		h := server(few(), lucky(1, 1, 1))
		f := begun(t, h, 3, 4, 1)
		deaf(t, "user 0", f, ask(0, 1, first), ask(0, 1, all[1].Onion), ask(0, 1, first), ask(0, 1, all[2].Onion), ask(0, 1, nought(196)))
		idle(t, "collects", f, 1)
		deaf(t, "user 2", f, ask(2, 1, all[2].Onion), ask(2, 1, all[3].Onion), ask(0, 1, all[3].Onion))
		idle(t, "collects", f, 1)
		_, on := twin(t, server(few(), lucky(1, 1, 1)), 1, first, all[1].Onion, all[2].Onion)
		sends(t, "user 1", f.Hear(ask(1, 1, all[1].Onion)), batch(1, on...))
	}
}

// orders are all orders of a few numbers.
func orders(l []int) [][]int {
	if len(l) == 0 {
		return [][]int{nil}
	}
	var all [][]int
	for i, n := range l {
		rest := slices.Concat(l[:i], l[i+1:])
		for _, o := range orders(rest) {
			all = append(all, append([]int{n}, o...))
		}
	}
	return all
}

// P21.4: closing.

func TestWhoAskedInTheUsersRow(t *testing.T) {
	// who asks, in whatever order; all: it closes at once
	all := onions(4, 1)
	s := lucky(1, 1, 4)
	for set := range 16 {
		var who []int
		var l []string
		for u := range 4 {
			if set>>u&1 == 1 {
				who, l = append(who, u), append(l, all[u].Onion)
			}
		}
		w, on := twin(t, server(few(), s), 1, l...)
		r := forReplies(len(on), set)
		told := answers(1, who, back(t, w, r...))
		for _, order := range orders(who) {
			h := server(few(), s)
			f := begun(t, h, 4, 2, 1)
			idle(t, "collects", f, 1)
			what := fmt.Sprint("asked: ", order)
			var got []api.Frame
			for i, u := range order {
				stands(t, what, f, 1, 1)
				got = f.Hear(ask(u, 1, all[u].Onion))
				if i < 3 {
					sends(t, what, got, nil)
				}
			}
			if len(order) < 4 {
				got = f.Tick()
			}
			sends(t, what, got, batch(1, on...))
			stands(t, what, f, 1, 2)
			sends(t, what, f.Hear(replies(1, r...)), told)
			stands(t, what, f, 1, 0)
			for i, u := range who {
				inside, ok := onion.Unwrap(nil, 1, all[u].Keys[:1], told[i].Data)
				if !ok || !slices.Contains(r, inside) {
					t.Error(what, u, ok)
				}
			}
		}
	}
}

func TestAsManyUsersAsMayBe(t *testing.T) {
	// with as many covers as may be
	x, e := table.New(2, 1, 0, 8)
	if e != api.OK {
		t.Fatal(e)
	}
	s := lucky(0, 0, 7) + lucky(0, 0, 8)
	all := onions(6, 1)
	var l []string
	for _, w := range all {
		l = append(l, w.Onion)
	}
	w, on := twin(t, server(x, s), 1, l...)
	if len(on) != 30 {
		t.Fatal(len(on))
	}
	f := begun(t, server(x, s), 6, 60, 60)
	for u := 5; u > 0; u-- {
		deaf(t, "asks", f, ask(u, 1, l[u]))
	}
	sends(t, "all have asked", f.Hear(ask(0, 1, l[0])), batch(1, on...))
	idle(t, "waits", f, 119)
	r := forReplies(30, 1)
	sends(t, "replies", f.Hear(replies(1, r...)), answers(1, []int{0, 1, 2, 3, 4, 5}, back(t, w, r...)))
}

func TestOneUser(t *testing.T) {
	all := onions(1, 1)
	w, on := twin(t, server(few(), lucky(3, 0, 7)), 1, all[0].Onion)
	f := begun(t, server(few(), lucky(3, 0, 7)), 1, 60, 1)
	sends(t, "asks", f.Hear(ask(0, 1, all[0].Onion)), batch(1, on...))
	r := forReplies(3, 1)
	sends(t, "replies", f.Hear(replies(1, r...)), answers(1, []int{0}, back(t, w, r...)))
}

func TestOnionsThatAreRefused(t *testing.T) {
	// what does not open is answered by noughts, and does not go on
	good := onions(3, 1)
	bad := some(1, 196)
	f := begun(t, server(still(), "\x00\x00"+nought(8)), 3, 3, 1)
	deaf(t, "asks", f, ask(2, 1, good[2].Onion), ask(1, 1, bad))
	l := f.Hear(ask(0, 1, good[0].Onion))
	a, _, _ := onion.Peel(nil, 1, 1, secrets()[0], good[0].Onion)
	c, _, _ := onion.Peel(nil, 1, 1, secrets()[0], good[2].Onion)
	sends(t, "two go on", l, batch(1, c, a)) // a draw of 0 has the two change places
	r := forReplies(2, 1)
	told := f.Hear(replies(1, r...))
	k := good[0].Keys[0]
	m := good[2].Keys[0]
	sends(t, "answers", told, answers(1, []int{0, 1, 2}, []string{onion.Close(nil, 1, k, r[1]), nought(84), onion.Close(nil, 1, m, r[0])}))

	// of two that are alike the lower user's counts, whoever asked first
	f = begun(t, server(still(), "\x00\x00"+nought(8)), 2, 3, 1)
	deaf(t, "asks", f, ask(1, 1, good[0].Onion))
	sends(t, "alike", f.Hear(ask(0, 1, strings.Clone(good[0].Onion))), batch(1, a))
	sends(t, "alike", f.Hear(replies(1, r[0])), answers(1, []int{0, 1}, []string{onion.Close(nil, 1, k, r[0]), nought(84)}))

	// an onion of another round
	f = begun(t, server(still(), "\x00\x00"), 1, 3, 1)
	other := onions(1, 2)
	sends(t, "another round's", f.Hear(ask(0, 1, other[0].Onion)), batch(1))
	sends(t, "another round's", f.Hear(replies(1)), answers(1, []int{0}, []string{nought(84)}))
}

// capped are tapes' texts by which Forward, of one who asked and of a table of 0, 1, 2, comes to an error.
func capped() map[string]string {
	made := some(5, 52+88+3*64) // a one, a pair, and what their layers are made of
	return map[string]string{
		"the first draw":  strings.Repeat("\xff", 4),
		"the second draw": "\x01" + strings.Repeat("\xff", 4),
		"the shuffle":     "\x01\x01" + made + strings.Repeat("\xff\xff", 4),
	}
}

func TestAnErrorOfForwardAborts(t *testing.T) {
	all := onions(3, 1)
	later := onions(1, 2)
	for name, s := range capped() {
		if name == "the shuffle" {
			// of four that go on the draws of a number below 4 are never over; below 3 ffff is
			s = strings.TrimSuffix(s, strings.Repeat("\xff\xff", 4)) + "\x00\x00" + strings.Repeat("\xff\xff", 4)
		}
		for _, how := range []string{"all asked", "some asked"} {
			what := name + ", " + how
			users := map[string]int{"all asked": 1, "some asked": 3}[how]
			h := server(few(), s+lucky(0, 0, 3))
			f := begun(t, h, users, 2, 2)
			g := server(few(), s)
			if _, _, e := g.Forward(1, all[0].Onion); e != api.ErrCap || g.Tape.Used() != len(s) {
				t.Fatal(what, e, g.Tape.Used(), len(s))
			}
			got := f.Hear(ask(0, 1, all[0].Onion))
			if how == "some asked" {
				sends(t, what, got, nil)
				idle(t, what, f, 1)
				got = f.Tick()
			}
			sends(t, what, got, toEach(users, api.Abort, 1))
			stands(t, what, f, 1, 0)
			if h.Tape.Used() != len(s) {
				t.Error(what, h.Tape.Used(), len(s))
			}
			deaf(t, what, f, replies(1), abort(1), ask(0, 1, all[0].Onion))
			// the next round begins clean
			sends(t, what, f.Tick(), toEach(users, api.Start, 2))
			deaf(t, what, f, ask(0, 1, all[0].Onion))
			if users == 3 {
				idle(t, what, f, 1)
				sends(t, what, f.Tick(), batch(2))
				continue
			}
			_, on := twin(t, server(few(), lucky(0, 0, 3)), 2, later[0].Onion)
			sends(t, what, f.Hear(ask(0, 2, later[0].Onion)), batch(2, on...))
		}
	}
}

func TestAWeakKeyAborts(t *testing.T) {
	// a cover can't be wrapped for a server whose public key is weak; where there are none, all goes well
	for at := 1; at < 3; at++ {
		h := server(few(), "\x01\x00"+some(1, 52+64)+"\x00\x00"+some(2, 4))
		h.Pubs[at] = api.Key{}
		f := begun(t, h, 2, 1, 1)
		sends(t, "weak", f.Tick(), toEach(2, api.Abort, 1))
		stands(t, "weak", f, 1, 0)
		h.Tape.Take(2 + 52 + 64 - h.Tape.Used())
		sends(t, "weak", f.Tick(), toEach(2, api.Start, 2))
		sends(t, "no covers", f.Tick(), batch(2))
		stands(t, "no covers", f, 2, 2)
	}
}

// P21.3: Replies.

// waiting is a front that waits for so many replies as its second user's onion and three covers have; and the twin's work.
func waiting(t *testing.T) (*front.Front, *hop.Work, onion.Wrapped) {
	t.Helper()
	all := onions(2, 1)
	f := begun(t, server(few(), lucky(1, 1, 9)), 3, 1, 2)
	deaf(t, "asks", f, ask(1, 1, all[1].Onion))
	w, on := twin(t, server(few(), lucky(1, 1, 9)), 1, all[1].Onion)
	if len(on) != 4 {
		t.Fatal(len(on))
	}
	sends(t, "closes", f.Tick(), batch(1, on...))
	return f, w, all[1]
}

func TestRepliesThatAreNone(t *testing.T) {
	f, w, mine := waiting(t)
	r := forReplies(4, 1)
	good := list(secondReply, r...)
	var none []api.Frame
	with := func(turn func(x *api.Frame)) {
		x := replies(1, r...)
		turn(&x)
		none = append(none, x)
	}
	for n := range 9 {
		if n != 4 { // another count
			with(func(x *api.Frame) { x.Data = list(secondReply, forReplies(n, 1)...) })
		}
		// another count is told than there are
		if n != 4 {
			with(func(x *api.Frame) { x.Data = string([]byte{byte(n), 0}) + good[2:] })
			with(func(x *api.Frame) { x.Data = "\x04\x00" + strings.Join(forReplies(n, 1), "") })
		}
	}
	with(func(x *api.Frame) { x.Data = list(secondReply, forReplies(64, 1)...) })
	for _, size := range []int{1, 52, 67, 69, 84, 100, 148, 196, 256} { // another size
		with(func(x *api.Frame) {
			x.Data = list(size, some(1, size), some(2, size), some(3, size), some(4, size))
		})
	}
	for _, s := range []string{"", "\x04", "\x04\x00", "\x00\x04" + good[2:], "\x04\x01" + good[2:], "\x00" + good, good[1:], good[2:], good[:len(good)-1], good + "x", good + good,
		nought(len(good)), some(1, len(good)), "\x44\x00" + good[2:]} {
		with(func(x *api.Frame) { x.Data = s })
	}
	for _, from := range []int{0, 1, 3, 4, 5, 6, -2, 256 + 2, 1<<32 + 2, math.MinInt + 2, math.MaxInt} {
		with(func(x *api.Frame) { x.From = from })
	}
	for _, to := range []int{0, 2, 3, 4, 5, -1, 256 + 1, 1<<32 + 1, math.MinInt + 1, math.MaxInt} {
		with(func(x *api.Frame) { x.To = to })
	}
	for _, kind := range []int{0, 1, 2, 3, 5, 7, -1, 256 + 4, 1<<32 + 4, math.MinInt + 4, math.MaxInt} {
		with(func(x *api.Frame) { x.Kind = kind })
	}
	for _, round := range []uint64{0, 2, 3, 257, 1<<32 + 1, math.MaxUint64} {
		with(func(x *api.Frame) { x.Round = round })
	}
	deaf(t, "replies that are none", f, none...)
	idle(t, "waits", f, 3)
	deaf(t, "replies that are none", f, none...)
	sends(t, "good ones", f.Hear(replies(1, r...)), answers(1, []int{1}, back(t, w, r...)))
	stands(t, "good ones", f, 1, 0)
	if got, ok := onion.Unwrap(nil, 1, mine.Keys[:1], back(t, w, r...)[0]); !ok || !slices.Contains(r, got) {
		t.Error(ok)
	}
	deaf(t, "it rests", f, none...)
	deaf(t, "once more", f, replies(1, r...))
}

func TestRepliesThatAreNoneDoNotPutTheEndOff(t *testing.T) {
	f, _, _ := waiting(t)
	for range 3 {
		deaf(t, "too few", f, replies(1, forReplies(3, 1)...))
		idle(t, "waits", f, 1)
	}
	deaf(t, "too few", f, replies(1, forReplies(3, 1)...), replies(2, forReplies(4, 1)...))
	sends(t, "over", f.Tick(), toEach(3, api.Abort, 1))
	stands(t, "over", f, 1, 0)
	deaf(t, "too late", f, replies(1, forReplies(4, 1)...))
	sends(t, "the next one", f.Tick(), toEach(3, api.Start, 2))
	deaf(t, "far too late", f, replies(1, forReplies(4, 1)...), replies(2, forReplies(4, 1)...), replies(2))
}

func TestEachReplyGoesWhereItsOnionCameFrom(t *testing.T) {
	all := onions(5, 1)
	for seed := range 20 {
		f := begun(t, server(few(), lucky(1, 1, 100+seed)), 5, 9, 1)
		var l []api.Frame
		for u := range 5 {
			l = f.Hear(ask(u, 1, all[u].Onion))
		}
		on, e := wire.Items(secondOnion, l[0].Data)
		if e != api.OK || len(on) != 8 {
			t.Fatal(e, len(on))
		}
		r := forReplies(8, seed)
		told := f.Hear(replies(1, r...))
		if len(told) != 5 {
			t.Fatal(short(told))
		}
		for u, x := range told {
			inside, _, _ := onion.Peel(nil, 1, 1, secrets()[0], all[u].Onion)
			got, ok := onion.Unwrap(nil, 1, all[u].Keys[:1], x.Data)
			if !ok || got != r[slices.Index(on, inside)] || x.From != 1 || x.To != 4+u || x.Kind != 5 || x.Round != 1 || len(x.Data) != firstReply {
				t.Error(seed, u, ok)
			}
		}
	}
}

func TestRepliesWhereNobodyAsked(t *testing.T) {
	f := begun(t, server(few(), lucky(1, 1, 1)), 2, 1, 1)
	f.Tick()
	sends(t, "to nobody", f.Hear(replies(1, forReplies(3, 1)...)), nil)
	stands(t, "to nobody", f, 1, 0)
	sends(t, "the next one", f.Tick(), toEach(2, api.Start, 2))

	f = begun(t, server(still(), ""), 2, 1, 1)
	f.Tick()
	sends(t, "of none, to nobody", f.Hear(replies(1)), nil)
	stands(t, "of none, to nobody", f, 1, 0)
}

// P21.3: Abort.

func TestAborts(t *testing.T) {
	var none []api.Frame
	with := func(turn func(x *api.Frame)) {
		x := abort(1)
		turn(&x)
		none = append(none, x)
	}
	for _, from := range []int{0, 1, 3, 4, 5, -2, 256 + 2, 1<<32 + 2, math.MinInt + 2, math.MaxInt} {
		with(func(x *api.Frame) { x.From = from })
	}
	for _, to := range []int{0, 2, 3, 4, -1, 256 + 1, 1<<32 + 1, math.MinInt + 1, math.MaxInt} {
		with(func(x *api.Frame) { x.To = to })
	}
	for _, kind := range []int{0, 1, 2, 3, 4, 5, 7, -1, 256 + 6, 1<<32 + 6, math.MinInt + 6, math.MaxInt} {
		with(func(x *api.Frame) { x.Kind = kind })
	}
	for _, round := range []uint64{0, 2, 257, 1<<32 + 1, math.MaxUint64} {
		with(func(x *api.Frame) { x.Round = round })
	}
	// what else it says does not count
	for i, s := range []string{"", "x", nought(84), list(secondReply, forReplies(4, 1)...)} {
		f, _, _ := waiting(t)
		deaf(t, "aborts that are none", f, none...)
		idle(t, "waits", f, i)
		x := abort(1)
		x.Data = s
		sends(t, "abort", f.Hear(x), toEach(3, api.Abort, 1))
		stands(t, "abort", f, 1, 0)
		deaf(t, "it rests", f, append(none, x, replies(1, forReplies(4, 1)...))...)
		sends(t, "the next one", f.Tick(), toEach(3, api.Start, 2))
		deaf(t, "it collects", f, abort(1), abort(2))
	}
}

// P21.2, P21.3: each phase with each call.

// each is frames of each kind from each address, with each kind of data, in a round.
func each(round uint64) []api.Frame {
	var l []api.Frame
	data := []string{"", nought(firstOnion), nought(firstReply), list(secondReply), list(secondReply, forReplies(4, 1)...), list(secondOnion)}
	for from := range 11 {
		for kind := range 8 {
			for _, s := range data {
				l = append(l, api.Frame{From: from, To: 1, Kind: kind, Round: round, Data: s})
			}
		}
	}
	return l
}

func TestEachPhaseWithEachFrame(t *testing.T) {
	h := server(few(), lucky(1, 1, 9))
	f := made(t, h, 2, 3, 2)
	deaf(t, "it rests, round 0", f, append(each(0), each(1)...)...)
	sends(t, "begins", f.Tick(), toEach(2, api.Start, 1))
	all := onions(2, 1)
	for _, x := range each(1) { // while it collects an Ask of a user counts, and nothing else
		if x.Kind != api.Ask || x.From != 4 && x.From != 5 || len(x.Data) != firstOnion {
			deaf(t, "it collects", f, x)
		}
	}
	deaf(t, "it collects", f, append(each(0), each(2)...)...)
	deaf(t, "it collects", f, ask(1, 1, all[1].Onion))
	idle(t, "it collects", f, 2)
	w, on := twin(t, server(few(), lucky(1, 1, 9)), 1, all[1].Onion)
	sends(t, "closes", f.Tick(), batch(1, on...))
	used := h.Tape.Used()
	for _, x := range each(1) { // while it waits Replies and Abort of server 2 count, and nothing else
		if x.From != 2 || x.Kind != api.Abort && (x.Kind != api.Replies || len(x.Data) != 2+4*secondReply) {
			deaf(t, "it waits", f, x)
		}
	}
	deaf(t, "it waits", f, append(each(0), each(2)...)...)
	deaf(t, "it waits", f, ask(0, 1, all[0].Onion))
	idle(t, "it waits", f, 3)
	r := forReplies(4, 7)
	sends(t, "replies", f.Hear(replies(1, r...)), answers(1, []int{1}, back(t, w, r...)))
	deaf(t, "it rests", f, slices.Concat(each(0), each(1), each(2))...)
	deaf(t, "it rests", f, ask(0, 1, all[0].Onion), ask(0, 2, all[0].Onion))
	if h.Tape.Used() != used {
		t.Error(h.Tape.Used(), used)
	}
	sends(t, "the next one", f.Tick(), toEach(2, api.Start, 2))
	stands(t, "the next one", f, 2, 1)
}

func TestOnlyAClosingTakesFromTheTape(t *testing.T) {
	h := server(still(), "")
	f := made(t, h, 2, 2, 2)
	all := onions(2, 1)
	used := func(n int) {
		t.Helper()
		if h.Tape.Used() != n {
			t.Error(h.Tape.Used(), "not", n)
		}
	}
	f.Tick()
	f.Hear(ask(0, 1, all[0].Onion))
	used(0)
	f.Hear(ask(1, 1, all[1].Onion))
	used(4) // two draws, and one of a shuffle
	f.Tick()
	f.Hear(replies(1, forReplies(1, 1)...))
	f.Hear(replies(1, forReplies(2, 1)...))
	f.Tick()
	f.Tick()
	used(4)
	f.Tick()
	used(6)
}

func TestTheNextRoundBeginsClean(t *testing.T) {
	// who asked in one round has not asked in the next one; what was asked then is forgotten
	for _, how := range []string{"replies", "abort", "wait"} {
		f := made(t, server(still(), ""), 3, 1, 1)
		g := server(still(), "")
		for round := uint64(1); round <= 6; round++ {
			all := onions(3, round)
			f.Tick()
			stands(t, how, f, round, 1)
			u := int(round) % 3
			deaf(t, how, f, ask(u, round, all[u].Onion))
			w, on := twin(t, g, round, all[u].Onion)
			sends(t, how, f.Tick(), batch(round, on...))
			switch how {
			case "replies":
				sends(t, how, f.Hear(replies(round, forReplies(1, u)...)), answers(round, []int{u}, back(t, w, forReplies(1, u)...)))
			case "abort":
				sends(t, how, f.Hear(abort(round)), toEach(3, api.Abort, round))
			case "wait":
				idle(t, how, f, 1)
				sends(t, how, f.Tick(), toEach(3, api.Abort, round))
			}
			stands(t, how, f, round, 0)
		}
	}
}

// Against a front as the chapter's words have it.

// plain is a front that writes down who asked when, and looks at that when it closes.
type plain struct {
	h                    hop.Hop
	users, collect, wait int
	round                uint64
	phase                int
	left                 int // ticks till what it waits for is over
	asked                map[int]string
	work                 *hop.Work
}

func (p *plain) tick() []api.Frame {
	p.left--
	switch {
	case p.phase == 0:
		p.round, p.phase, p.left, p.asked = p.round+1, 1, p.collect, map[int]string{}
		return toEach(p.users, api.Start, p.round)
	case p.left == 0 && p.phase == 1:
		return p.close()
	case p.left == 0 && p.phase == 2:
		return p.abort()
	}
	return nil
}

func (p *plain) who() []int {
	var l []int
	for u := range p.users {
		if _, ok := p.asked[u]; ok {
			l = append(l, u)
		}
	}
	return l
}

func (p *plain) close() []api.Frame {
	var l []string
	for _, u := range p.who() {
		l = append(l, p.asked[u])
	}
	w, on, e := p.h.Forward(p.round, l...)
	if e != api.OK {
		return p.abort()
	}
	p.work, p.phase, p.left = w, 2, 2*p.wait
	return batch(p.round, on...)
}

func (p *plain) abort() []api.Frame {
	p.phase = 0
	return toEach(p.users, api.Abort, p.round)
}

func (p *plain) hear(x api.Frame) []api.Frame {
	_, again := p.asked[x.From-4]
	fromTwo := x.From == 2 && p.phase == 2
	switch {
	case x.To != 1 || x.Round != p.round:
	case x.Kind == api.Ask && p.phase == 1 && x.From >= 4 && x.From < 4+p.users && !again && len(x.Data) == firstOnion:
		p.asked[x.From-4] = x.Data
		if len(p.asked) == p.users {
			return p.close()
		}
	case x.Kind == api.Replies && fromTwo:
		n := p.work.Size()
		if len(x.Data) != 2+n*secondReply || x.Data[:2] != string([]byte{byte(n), 0}) {
			return nil
		}
		var l []string
		for i := range n {
			l = append(l, x.Data[2+i*secondReply:2+(i+1)*secondReply])
		}
		r, e := p.work.Back(l...)
		if e != api.OK {
			panic(e)
		}
		p.phase = 0
		return answers(p.round, p.who(), r)
	case x.Kind == api.Abort && fromTwo:
		return p.abort()
	}
	return nil
}

// frames are some that might come, more of them of use than not.
func (p *plain) frames(r *rand.Rand, pool []string) api.Frame {
	x := api.Frame{From: 4 + r.IntN(p.users), To: 1, Kind: api.Ask, Round: p.round, Data: pool[r.IntN(len(pool))]}
	if p.phase == 2 && r.IntN(2) == 0 {
		n := p.work.Size()
		if r.IntN(3) == 0 {
			n = r.IntN(9)
		}
		x = replies(p.round, forReplies(n, r.IntN(100))...)
		if r.IntN(4) == 0 {
			x = abort(p.round)
		}
	}
	switch r.IntN(12) {
	case 0:
		x.From = r.IntN(12) - 1
	case 1:
		x.To = r.IntN(6)
	case 2:
		x.Kind = r.IntN(8)
	case 3:
		x.Round += uint64(r.IntN(5)) - 2
	case 4:
		x.Data = x.Data[:len(x.Data)-min(len(x.Data), r.IntN(3))]
	case 5:
		x.Data += some(r.IntN(100), r.IntN(70))
	}
	return x
}

func TestRandomCourses(t *testing.T) {
	ends := map[int]int{} // how many rounds ended how
	for seed := range 40 {
		r := rand.New(rand.NewPCG(21, uint64(seed)))
		x, s := few(), some(seed, 40000)
		ideal := seed%2 == 0
		g, h := server(x, s), server(x, s)
		g.Tries = 1 + r.IntN(4)
		h.Tries = g.Tries
		g.Book, h.Book = book.New(ideal, tape.New(some(seed, 9000))), book.New(ideal, tape.New(some(seed, 9000)))
		p := &plain{h: g, users: 1 + r.IntN(6), collect: 1 + r.IntN(4), wait: 1 + r.IntN(3)}
		f := made(t, h, p.users, p.collect, p.wait)
		var pool []string
		began, now := 0, 0
		for n := range 100 {
			var got, want []api.Frame
			was := p.phase
			if r.IntN(3) == 0 {
				now++
				got, want = f.Tick(), p.tick()
				if was == 0 {
					began = now
					pool = pools(g.Book, h.Book, 50*seed, p.round)
				}
			} else if p.round > 0 {
				x := p.frames(r, pool)
				got, want = f.Hear(x), p.hear(x)
			}
			what := fmt.Sprintf("course %d, step %d", seed, n)
			sends(t, what, got, want)
			stands(t, what, f, p.round, p.phase)
			if g.Tape.Used() != h.Tape.Used() || g.Book.Forged() != h.Book.Forged() {
				t.Fatal(what, g.Tape.Used(), h.Tape.Used(), g.Book.Forged(), h.Book.Forged())
			}
			if was != 0 && p.phase == 0 {
				if now-began > p.collect+2*p.wait {
					t.Fatal(what, "the round is over too late")
				}
				if len(got) > 0 {
					ends[got[0].Kind]++
				}
			}
		}
	}
	if ends[api.Answer] < 20 || ends[api.Abort] < 20 {
		t.Error(ends)
	}
}

// pools are data of a round's frames: onions that open, as two books have them shared, one that is forged, some that don't open.
func pools(b, c *book.Book, seed int, round uint64) []string {
	l := []string{some(seed, firstOnion), nought(firstOnion), "", nought(firstReply), list(secondReply)}
	for i := range 4 {
		for _, x := range []*book.Book{b, c} {
			w, _ := onion.Wrap(x, tape.New(some(seed+i, 96)), round, 1, pubs(), []bool{true, true, true}, some(seed+i, 52))
			if x == b {
				l = append(l, w.Onion)
			}
		}
	}
	w, _ := onion.Wrap(nil, tape.New(some(seed+9, 96)), round, 1, pubs(), make([]bool, 3), some(seed+9, 52))
	b.Share(w.Keys[0])
	c.Share(w.Keys[0])
	return append(l, w.Onion)
}

func TestManyRounds(t *testing.T) {
	// of one tape, with other users who ask in each of them
	s := some(77, 60000)
	g, h := server(few(), s), server(few(), s)
	g.Tries, h.Tries = 16, 16
	p := &plain{h: g, users: 3, collect: 2, wait: 1}
	f := made(t, h, 3, 2, 1)
	for round := uint64(1); round <= 60; round++ {
		sends(t, "begins", f.Tick(), p.tick())
		for u := range 3 {
			if round>>u&1 == 1 {
				x := ask(u, round, some(int(round)*3+u, firstOnion))
				sends(t, "asks", f.Hear(x), p.hear(x))
			}
		}
		for p.phase == 1 {
			sends(t, "collects", f.Tick(), p.tick())
		}
		x := replies(round, forReplies(p.work.Size(), int(round))...)
		sends(t, "replies", f.Hear(x), p.hear(x))
		stands(t, "rests", f, round, 0)
	}
	if g.Tape.Used() != h.Tape.Used() {
		t.Error(g.Tape.Used(), h.Tape.Used())
	}
}

func TestAHundredThousandRounds(t *testing.T) {
	f := made(t, server(still(), ""), 1, 1, 1)
	for round := uint64(1); round <= 100000; round++ {
		if l := f.Tick(); len(l) != 1 || l[0].Round != round || f.Round() != round || f.Phase() != 1 {
			t.Fatal(round, short(l))
		}
		if l := f.Tick(); len(l) != 1 || l[0].Kind != api.Batch || l[0].Round != round || f.Phase() != 2 {
			t.Fatal(round, short(l))
		}
		f.Hear(abort(round))
	}
}

// In the ideal game, too, a user's answer opens; what is shared in the book is that of honest servers.

func TestBothGames(t *testing.T) {
	for _, ideal := range []bool{false, true} {
		for n := range 8 {
			b := book.New(ideal, tape.New(some(1, 9000)))
			who := []bool{n&1 > 0, n&2 > 0, n&4 > 0}
			w, e := onion.Wrap(b, tape.New(some(2, 96)), 1, 1, pubs(), who, some(3, 52))
			if e != api.OK {
				t.Fatal(e)
			}
			h := server(few(), lucky(1, 0, 3))
			h.Honest, h.Book = who, b
			f := begun(t, h, 1, 2, 2)
			l := f.Hear(ask(0, 1, w.Onion))
			on, _ := wire.Items(secondOnion, l[0].Data)
			if len(on) != 2 {
				t.Fatal(ideal, n, len(on))
			}
			var came []string
			for _, o := range on { // server 2 and 3
				inside, k, ok := onion.Peel(b, 1, 2, secrets()[1], o)
				last, m, alsoOK := onion.Peel(b, 1, 3, secrets()[2], inside)
				if !ok || !alsoOK {
					t.Fatal(ideal, n, ok, alsoOK)
				}
				came = append(came, onion.Close(b, 1, k, onion.Close(b, 1, m, last[16:])))
			}
			told := f.Hear(replies(1, came...))
			if len(told) != 1 {
				t.Fatal(ideal, n, short(told))
			}
			if got, ok := onion.Unwrap(b, 1, w.Keys, told[0].Data); !ok || got != some(3, 52)[16:] || b.Forged() != 0 {
				t.Error(ideal, n, ok, b.Forged())
			}
		}
	}
}

// 'Ways': a hop and a clock are embedded, so their methods are a front's, too.

func TestMethodsThatArePromoted(t *testing.T) {
	f := made(t, server(few(), lucky(1, 1, 1)), 2, 3, 2)
	ticks, ok := any(f).(interface {
		Now() int
		Waits() bool
		Over() bool
	})
	if !ok {
		t.Fatal("no clock")
	}
	says := func(what string, now int, waits, over bool) {
		t.Helper()
		if ticks.Now() != now || ticks.Waits() != waits || ticks.Over() != over {
			t.Errorf("%s: Now %d, Waits %v, Over %v; want %d, %v, %v", what, ticks.Now(), ticks.Waits(), ticks.Over(), now, waits, over)
		}
	}
	says("New", 0, false, false)
	f.Tick()
	says("collects", 1, true, false)
	f.Hear(ask(0, 1, nought(firstOnion)))
	f.Tick()
	f.Tick()
	says("collects", 3, true, false)
	f.Tick()
	says("waits", 4, true, false)
	f.Hear(abort(1))
	says("rests", 4, false, false)
	f.Tick()
	says("collects", 5, true, false)

	works, ok := any(f).(interface {
		Forward(round uint64, onions ...string) (*hop.Work, []string, api.Errno)
		Last(round uint64, onions ...string) ([]string, api.Errno)
	})
	if !ok {
		t.Fatal("no hop")
	}
	if _, e := works.Last(1); e != api.ErrArg {
		t.Error(e)
	}
	g := made(t, server(few(), lucky(1, 1, 1)), 2, 3, 2)
	_, on, e := any(g).(interface {
		Forward(round uint64, onions ...string) (*hop.Work, []string, api.Errno)
	}).Forward(1)
	_, want := twin(t, server(few(), lucky(1, 1, 1)), 1)
	if e != api.OK || !slices.Equal(on, want) {
		t.Error(e, len(on))
	}
}

// Rules that hold everywhere.

func TestWhatIsHandedInIsAsItWasAndNotSeenThrough(t *testing.T) {
	all := onions(2, 1)
	keys := append(pubs(), api.Key{1}, api.Key{2})
	who := []bool{true, false, true, true, false}
	h := server(few(), lucky(1, 1, 1))
	h.Pubs, h.Honest, h.Book = keys[:3], who[:3], book.New(true, tape.New(some(1, 3000)))
	f := made(t, h, 2, 3, 2)
	if !slices.Equal(keys, append(pubs(), api.Key{1}, api.Key{2})) || !slices.Equal(who, []bool{true, false, true, true, false}) {
		t.Error("New changed a list")
	}
	clear(keys) // weak keys: no cover could be wrapped
	who[1] = true
	f.Tick()
	bytes := []byte(all[1].Onion + "spare")
	f.Hear(ask(1, 1, unsafe.String(&bytes[0], firstOnion)))
	if string(bytes) != all[1].Onion+"spare" {
		t.Error("Hear changed a text")
	}
	clear(bytes)
	g := server(few(), lucky(1, 1, 1))
	g.Honest, g.Book = []bool{true, false, true}, book.New(true, tape.New(some(1, 3000)))
	w, on := twin(t, g, 1, all[0].Onion, all[1].Onion)
	sends(t, "the lists and the onion as they were", f.Hear(ask(0, 1, all[0].Onion)), batch(1, on...))
	if !slices.Equal(keys, make([]api.Key, 5)) || !slices.Equal(who, []bool{true, true, true, true, false}) {
		t.Error("a round changed a list")
	}
	r := forReplies(5, 1)
	bytes = []byte(list(secondReply, r...) + "spare")
	x := replies(1, r...)
	x.Data = unsafe.String(&bytes[0], len(bytes)-5)
	told := f.Hear(x)
	if string(bytes) != list(secondReply, r...)+"spare" {
		t.Error("Hear changed a text")
	}
	clear(bytes)
	sends(t, "the replies as they were", told, answers(1, []int{0, 1}, back(t, w, r...)))
}

func TestTheTapeAndTheTableAndTheBookAreThoseThatAreHandedIn(t *testing.T) {
	s := lucky(1, 1, 1)
	h := server(few(), "\xff\xff"+s)
	h.Book = book.New(true, tape.New(some(1, 900)))
	f := made(t, h, 1, 1, 1)
	h.Tape.Take(2) // this is seen
	w, _ := onion.Wrap(nil, tape.New(some(2, 96)), 1, 1, pubs(), make([]bool, 3), some(3, 52))
	f.Tick()
	h.Book.Share(w.Keys[0]) // nobody sealed anything under it: the onion does not open
	sends(t, "the book is used", f.Hear(ask(0, 1, w.Onion)), func() []api.Frame {
		g := server(few(), s)
		g.Book = book.New(true, tape.New(some(1, 900)))
		g.Book.Share(w.Keys[0])
		_, on := twin(t, g, 1, w.Onion)
		if len(on) != 3 {
			t.Error(len(on))
		}
		return batch(1, on...)
	}())
	if h.Tape.Used() == 2 {
		t.Error("another tape")
	}
}

func TestTwoFrontsOfOneHop(t *testing.T) {
	// they take from one tape; what else they have is each one's own
	s := lucky(0, 0, 1) + lucky(0, 0, 2)
	h := server(few(), s)
	g := server(few(), s)
	a, b := made(t, h, 2, 5, 1), made(t, h, 1, 2, 1)
	sends(t, "a", a.Tick(), toEach(2, api.Start, 1))
	stands(t, "b", b, 0, 0)
	all := onions(2, 1)
	deaf(t, "a", a, ask(0, 1, all[0].Onion))
	sends(t, "b", b.Tick(), toEach(1, api.Start, 1))
	_, on := twin(t, g, 1, all[1].Onion)
	sends(t, "b", b.Hear(ask(0, 1, all[1].Onion)), batch(1, on...))
	stands(t, "a", a, 1, 1)
	_, on = twin(t, g, 1, all[0].Onion, all[1].Onion)
	sends(t, "a", a.Hear(ask(1, 1, all[1].Onion)), batch(1, on...))
	stands(t, "b", b, 1, 2)
}

// apart holds that texts share no memory.
func apart(t *testing.T, what string, texts ...string) {
	t.Helper()
	type span struct{ from, to uintptr }
	var all []span
	for _, s := range texts {
		if s != "" {
			from := uintptr(unsafe.Pointer(unsafe.StringData(s)))
			all = append(all, span{from, from + uintptr(len(s))})
		}
	}
	slices.SortFunc(all, func(a, b span) int {
		if a.from < b.from {
			return -1
		}
		return 1
	})
	for i := 1; i < len(all); i++ {
		if all[i].from < all[i-1].to {
			t.Error(what, "shares memory")
			return
		}
	}
}

func TestWhatIsToldIsNewMemory(t *testing.T) {
	all := onions(2, 1)
	texts := []string{all[0].Onion, all[1].Onion}
	var lists, were [][]api.Frame
	for range 2 {
		f := made(t, server(few(), lucky(1, 1, 1)), 2, 3, 2)
		x := replies(1, forReplies(5, 1)...)
		texts = append(texts, x.Data)
		lists = append(lists, f.Tick(), f.Hear(ask(0, 1, all[0].Onion)), f.Hear(ask(1, 1, all[1].Onion)), f.Hear(x), f.Tick())
	}
	for _, l := range lists {
		were = append(were, slices.Clone(l))
		for _, x := range l {
			texts = append(texts, x.Data)
		}
	}
	for i, l := range lists {
		sends(t, "what is told", l, were[i])
		clear(l[:cap(l)]) // those behind it are still as they were
	}
	apart(t, "what is told", texts...)

	// a list that was told may be written over: nothing of it is used again
	f := made(t, server(still(), ""), 3, 1, 1)
	for round := uint64(1); round <= 3; round++ {
		l := f.Tick()
		sends(t, "begins", l, toEach(3, api.Start, round))
		clear(l[:cap(l)])
		l = f.Tick()
		sends(t, "closes", l, batch(round))
		clear(l[:cap(l)])
		l = f.Hear(abort(round))
		sends(t, "aborts", l, toEach(3, api.Abort, round))
		clear(l[:cap(l)])
	}
}

func TestAnswersHangOnTheArgumentsAlone(t *testing.T) {
	all := onions(3, 1)
	course := func(between func()) []api.Frame {
		f := made(t, server(few(), lucky(1, 1, 5)), 3, 2, 2)
		var l []api.Frame
		do := func(told []api.Frame) {
			l = append(l, told...)
			between()
		}
		do(f.Tick())
		do(f.Hear(ask(2, 1, all[2].Onion)))
		do(f.Hear(ask(0, 1, all[0].Onion)))
		do(f.Tick())
		do(f.Tick())
		do(f.Hear(replies(1, forReplies(5, 1)...)))
		do(f.Tick())
		do(f.Tick())
		do(f.Tick())
		do(f.Hear(abort(2)))
		return l
	}
	want := course(func() {})
	other := made(t, server(few(), some(1, 9000)), 2, 1, 1)
	for range 5 {
		sends(t, "once more", course(func() {
			other.Tick()
			other.Hear(abort(other.Round()))
		}), want)
	}
}
