package middle_test

import (
	"crypto/sha256"
	"fmt"
	"math"
	"math/rand/v2"
	"slices"
	"strings"
	"testing"
	"unsafe"

	"billet/api"
	"billet/book"
	"billet/curve"
	"billet/hop"
	"billet/middle"
	"billet/onion"
	"billet/table"
	"billet/tape"
	"billet/wire"
)

// some is n bytes that look like chance, the same for the same seed.
func some(seed, n int) string {
	var b []byte
	for i := 0; len(b) < n; i++ {
		h := sha256.Sum256(fmt.Append(nil, seed, i))
		b = append(b, h[:]...)
	}
	return string(b[:n])
}

func nought(n int) string {
	return strings.Repeat("\x00", n)
}

// Sizes: of an onion that comes to server 2, and to server 3; of the reply that server 2 gives, and server 3.
const (
	secondOnion, thirdOnion = 148, 100
	secondReply, thirdReply = 68, 52
)

// last is the round behind which there is none.
const last = math.MaxUint64

func secrets() []api.Key {
	var l []api.Key
	for i := range 3 {
		l = append(l, api.Key([]byte(some(900+i, 32))))
	}
	return l
}

func pubs() []api.Key {
	var l []api.Key
	for _, k := range secrets() {
		l = append(l, curve.Public(k))
	}
	return l
}

// still is a table of the number 0 alone; few is one of 0, 1, 2, drawn by the bytes 0, 1, 3.
func still() *table.Table {
	t, _ := table.New(2, 1, 0, 0)
	return t
}

func few() *table.Table {
	t, _ := table.New(2, 1, 1, 1)
	return t
}

// server is the second server's hop, which lacks nothing.
func server(x *table.Table, s string) hop.Hop {
	return hop.Hop{At: 2, Secret: secrets()[1], Pubs: pubs(), Honest: []bool{true, true, true}, Table: x, Tape: tape.New(s), Tries: 4}
}

// lucky is a tape's text of which no draw needs a second try: covers' numbers of one round, and bytes for all else.
func lucky(ones, twos byte, seed int) string {
	b := []byte(some(seed, 3000))
	for i := range b {
		b[i] &= 0x7f
	}
	return string([]byte{ones, twos}) + string(b)
}

func made(t *testing.T, h hop.Hop, wait int) *middle.Middle {
	t.Helper()
	m, e := middle.New(h, wait)
	if m == nil || e != api.OK {
		t.Fatalf("New of %d: %d", wait, e)
	}
	return m
}

// wrapped are n onions of a round for the servers from 2 on, and what their replies are opened by.
func wrapped(n int, round uint64) (all []onion.Wrapped) {
	for i := range n {
		w, e := onion.Wrap(nil, tape.New(some(3000+i, 96)), round, 2, pubs(), make([]bool, 3), some(i, 52))
		if e != api.OK {
			panic(e)
		}
		all = append(all, w)
	}
	return all
}

// onions are these alone.
func onions(n int, round uint64) []string {
	var l []string
	for _, w := range wrapped(n, round) {
		l = append(l, w.Onion)
	}
	return l
}

// junk are n onions that don't open, unlike all.
func junk(n, seed int) []string {
	return texts(n, seed, secondOnion)
}

// forReplies are n replies that come from server 3, unlike all.
func forReplies(n, seed int) []string {
	return texts(n, seed, thirdReply)
}

func texts(n, seed, size int) []string {
	var l []string
	for i := range n {
		l = append(l, some(100000*(1+seed)+i, size))
	}
	return l
}

// Frames.

func batch(round uint64, l ...string) api.Frame {
	return api.Frame{From: 1, To: 2, Kind: api.Batch, Round: round, Data: list(secondOnion, l...)}
}

func replies(round uint64, l ...string) api.Frame {
	return api.Frame{From: 3, To: 2, Kind: api.Replies, Round: round, Data: list(thirdReply, l...)}
}

func abort(round uint64) api.Frame {
	return api.Frame{From: 3, To: 2, Kind: api.Abort, Round: round}
}

// list is items of a size in a row, and ahead of them how many they are.
func list(size int, l ...string) string {
	s, e := wire.List(size, l...)
	if e != api.OK {
		panic(e)
	}
	return s
}

// What a middle tells: a batch to 3, replies to 1, an Abort to 1.

func goesOn(round uint64, on ...string) []api.Frame {
	return []api.Frame{{From: 2, To: 3, Kind: api.Batch, Round: round, Data: list(thirdOnion, on...)}}
}

func goesBack(round uint64, l ...string) []api.Frame {
	return []api.Frame{{From: 2, To: 1, Kind: api.Replies, Round: round, Data: list(secondReply, l...)}}
}

func aborts(round uint64) []api.Frame {
	return []api.Frame{{From: 2, To: 1, Kind: api.Abort, Round: round}}
}

// short is frames as they are told where they are not the ones that should be.
func short(l []api.Frame) string {
	var b strings.Builder
	for _, x := range l {
		fmt.Fprintf(&b, "{%d to %d, kind %d, round %d, %d bytes}", x.From, x.To, x.Kind, x.Round, len(x.Data))
	}
	return b.String()
}

// sends holds what a middle told against what it should.
func sends(t *testing.T, what string, got, want []api.Frame) {
	t.Helper()
	if !slices.Equal(got, want) {
		t.Fatalf("%s: %s; want %s", what, short(got), short(want))
	}
}

// stands holds a middle's round and phase against what they should be.
func stands(t *testing.T, what string, m *middle.Middle, round uint64, phase int) {
	t.Helper()
	if m.Round() != round || m.Phase() != phase {
		t.Fatalf("%s: round %d, phase %d; want %d, %d", what, m.Round(), m.Phase(), round, phase)
	}
}

// idle holds that a middle tells nothing in so many ticks, and that nothing changes.
func idle(t *testing.T, what string, m *middle.Middle, ticks int) {
	t.Helper()
	round, phase := m.Round(), m.Phase()
	for n := range ticks {
		if l := m.Tick(); len(l) != 0 {
			t.Fatalf("%s: at tick %d of %d: %s", what, n+1, ticks, short(l))
		}
		stands(t, what, m, round, phase)
	}
}

// deaf holds that nothing comes of frames, and that nothing changes.
func deaf(t *testing.T, what string, m *middle.Middle, l ...api.Frame) {
	t.Helper()
	round, phase := m.Round(), m.Phase()
	for i, x := range l {
		sends(t, fmt.Sprint(what, ", frame ", i, " ", short([]api.Frame{x})), m.Hear(x), nil)
		stands(t, fmt.Sprint(what, ", frame ", i, " ", short([]api.Frame{x})), m, round, phase)
	}
}

// twin is what goes on, and the work, where another hop that is like the middle's is asked.
func twin(t *testing.T, h hop.Hop, round uint64, l ...string) (*hop.Work, []string) {
	t.Helper()
	w, on, e := h.Forward(round, l...)
	if e != api.OK {
		t.Fatal(e)
	}
	return w, on
}

func back(t *testing.T, w *hop.Work, l ...string) []string {
	t.Helper()
	r, e := w.Back(l...)
	if e != api.OK {
		t.Fatal(e)
	}
	return r
}

// waiting is a middle that waits three ticks for the replies of two onions of round 5 and three covers; and the twin's work.
func waiting(t *testing.T) (*middle.Middle, *hop.Work) {
	t.Helper()
	m := made(t, server(few(), lucky(1, 1, 9)+lucky(1, 1, 10)), 3)
	l := onions(2, 5)
	w, on := twin(t, server(few(), lucky(1, 1, 9)), 5, l...)
	if len(on) != 5 {
		t.Fatal(len(on))
	}
	sends(t, "a batch", m.Hear(batch(5, l...)), goesOn(5, on...))
	stands(t, "a batch", m, 5, 2)
	return m, w
}

// The chapter's examples.

func TestExamples(t *testing.T) {
	m := made(t, server(few(), lucky(1, 1, 1)), 2)
	l := m.Hear(batch(5))
	_, on := twin(t, server(few(), lucky(1, 1, 1)), 5)
	sends(t, "example 1", l, goesOn(5, on...))
	if l[0].Data[:2] != "\x03\x00" || len(l[0].Data) != 2+3*thirdOnion {
		t.Error(len(l[0].Data))
	}
	sends(t, "example 2", m.Hear(batch(5)), nil)
	stands(t, "example 2", m, 5, 2)
}

// P22.1: New.

// lacking are hops that lack something, each in one way.
func lacking() map[string]hop.Hop {
	l := map[string]hop.Hop{}
	with := func(name string, turn func(h *hop.Hop)) {
		h := server(few(), lucky(1, 1, 1))
		turn(&h)
		l[name] = h
	}
	for _, n := range []int{0, 1, 3, 4, -1, -2, 2 + 256, 2 + 1<<32, math.MinInt, math.MinInt + 2, math.MaxInt} {
		with(fmt.Sprint("At ", n), func(h *hop.Hop) { h.At = n })
	}
	for _, n := range []int{0, 1, 2, 4, 6, 3 + 256} {
		with(fmt.Sprint("pubs ", n), func(h *hop.Hop) { h.Pubs = slices.Repeat(h.Pubs, 100)[:n] })
		with(fmt.Sprint("honest ", n), func(h *hop.Hop) { h.Honest = slices.Repeat(h.Honest, 100)[:n] })
		with(fmt.Sprint("both ", n), func(h *hop.Hop) {
			h.Pubs, h.Honest = slices.Repeat(h.Pubs, 100)[:n], slices.Repeat(h.Honest, 100)[:n]
		})
	}
	with("no pubs", func(h *hop.Hop) { h.Pubs = nil })
	with("no honest", func(h *hop.Hop) { h.Honest = nil })
	with("no lists", func(h *hop.Hop) { h.Pubs, h.Honest = nil, nil })
	with("no table", func(h *hop.Hop) { h.Table = nil })
	with("no tape", func(h *hop.Hop) { h.Tape = nil })
	with("neither", func(h *hop.Hop) { h.Table, h.Tape = nil, nil })
	for _, n := range []int{0, -1, -4, 17, 18, 4 + 256, 4 + 1<<32, math.MinInt, math.MinInt + 4, math.MaxInt} {
		with(fmt.Sprint("tries ", n), func(h *hop.Hop) { h.Tries = n })
	}
	with("all", func(h *hop.Hop) { *h = hop.Hop{} })
	with("all but At", func(h *hop.Hop) { *h = hop.Hop{At: 2} })
	return l
}

func refused(t *testing.T, what string, h hop.Hop, wait int) {
	t.Helper()
	if m, e := middle.New(h, wait); m != nil || e != api.ErrArg {
		t.Errorf("%s: New of %d: a middle: %v, %d", what, wait, m != nil, e)
	}
	if h.Tape.Used() != 0 {
		t.Errorf("%s: taken from the tape: %d", what, h.Tape.Used())
	}
}

func TestNewOfAHopThatLacksSomething(t *testing.T) {
	for name, h := range lacking() {
		for _, wait := range []int{0, 1, 60, 61} {
			refused(t, name, h, wait)
		}
	}
}

func TestNewOfAWaitOutOfBounds(t *testing.T) {
	h := server(few(), "")
	for _, n := range []int{0, -1, -2, -60, 61, 62, 120, 256, 257, 256 + 60, 65536, 65537,
		math.MaxInt32, math.MaxUint32, math.MaxUint32 + 2, math.MinInt32, math.MinInt, math.MinInt + 1, math.MaxInt - 1, math.MaxInt} {
		refused(t, "wait", h, n)
	}
}

func TestNewRestsInRoundNought(t *testing.T) {
	for wait := 1; wait <= 60; wait++ {
		h := server(few(), lucky(1, 1, 1))
		m := made(t, h, wait)
		stands(t, "New", m, 0, 0)
		idle(t, "New", m, 130)
		if h.Tape.Used() != 0 {
			t.Error(wait, h.Tape.Used())
		}
	}
	for tries := 1; tries <= 16; tries++ {
		h := server(still(), "")
		h.Tries = tries
		stands(t, "tries", made(t, h, 1), 0, 0)
	}
}

func TestNewOfHonestAndTaken(t *testing.T) {
	// the list tells what is shared, not who may be a middle; a book is not asked for
	for n := range 8 {
		h := server(few(), "")
		h.Honest = []bool{n&1 > 0, n&2 > 0, n&4 > 0}
		stands(t, "no book", made(t, h, 1), 0, 0)
		h.Book = book.New(n&1 > 0, tape.New(""))
		stands(t, "a book", made(t, h, 1), 0, 0)
	}
	h := server(few(), "")
	h.Secret, h.Pubs = api.Key{}, make([]api.Key, 3)
	stands(t, "noughts for keys", made(t, h, 1), 0, 0)
}

func TestOfNil(t *testing.T) {
	var m *middle.Middle
	for range 3 {
		if m.Round() != 0 || m.Phase() != 0 || len(m.Tick()) != 0 {
			t.Error("nil")
		}
		for _, round := range []uint64{0, 1, 5, last} {
			for _, x := range each(round) {
				if l := m.Hear(x); len(l) != 0 {
					t.Error(short([]api.Frame{x}), short(l))
				}
			}
		}
	}
}

// P22.2: Batch.

// each is frames of each kind from each address, with each kind of data, in a round.
func each(round uint64) []api.Frame {
	var l []api.Frame
	data := []string{"", nought(secondOnion), nought(secondReply), list(thirdReply), list(thirdReply, forReplies(5, 1)...),
		list(secondOnion, junk(1, 1)...), list(secondReply, some(1, secondReply)), list(thirdOnion, some(1, thirdOnion))}
	for from := range 11 {
		for kind := range 8 {
			for _, s := range data {
				l = append(l, api.Frame{From: from, To: 2, Kind: kind, Round: round, Data: s})
			}
		}
	}
	return l
}

func TestBatchesOfEachCount(t *testing.T) {
	// a table's most covers are six: of a batch there may be 58 onions
	for n := 0; n <= 58; n++ {
		h, s := server(few(), lucky(1, 3, n)), lucky(1, 3, n)
		m := made(t, h, 1)
		l := junk(n, n)
		if n > 0 { // one that opens
			l[n/2] = onions(1, 7)[0]
		}
		w, on := twin(t, server(few(), s), 7, l...)
		if len(on) != min(n, 1)+5 {
			t.Fatal(n, len(on))
		}
		sends(t, fmt.Sprint(n), m.Hear(batch(7, l...)), goesOn(7, on...))
		stands(t, fmt.Sprint(n), m, 7, 2)
		r := forReplies(len(on), n)
		told := m.Hear(replies(7, r...))
		sends(t, fmt.Sprint(n), told, goesBack(7, back(t, w, r...)...))
		stands(t, fmt.Sprint(n), m, 7, 0)
		if len(told[0].Data) != 2+n*secondReply || told[0].Data[:2] != string([]byte{byte(n), 0}) {
			t.Error(n, len(told[0].Data))
		}
	}
}

func TestBatchesOfMoreThanMayBe(t *testing.T) {
	// of each table: as many as may be are taken, of one more not even the round is
	for reach := range 5 {
		for about := reach; about+reach <= 8; about++ {
			x, e := table.New(2, 1, reach, about)
			if e != api.OK {
				t.Fatal(reach, about, e)
			}
			most := 64 - 3*(reach+about)
			what := fmt.Sprint("reach ", reach, ", middle ", about)
			h := server(x, lucky(0, 0, 1))
			m := made(t, h, 2)
			for n := most + 1; n <= 64; n++ {
				deaf(t, what, m, batch(1, junk(n, 1)...), batch(last, junk(n, 1)...))
			}
			stands(t, what, m, 0, 0)
			l := junk(most, 1)
			l[0] = onions(1, 1)[0]
			if h.Tape.Used() != 0 {
				t.Error(what, h.Tape.Used())
			}
			w, on := twin(t, server(x, lucky(0, 0, 1)), 1, l...)
			sends(t, what, m.Hear(batch(1, l...)), goesOn(1, on...))
			used := h.Tape.Used()
			for n := most + 1; n <= 64; n++ { // it waits on, no longer and no shorter
				deaf(t, what, m, batch(2, junk(n, 1)...), batch(last, junk(n, 1)...))
			}
			idle(t, what, m, 1)
			for n := most + 1; n <= 64; n++ {
				deaf(t, what, m, batch(2, junk(n, 1)...))
			}
			if h.Tape.Used() != used {
				t.Error(what, h.Tape.Used(), used)
			}
			r := forReplies(len(on), 1)
			sends(t, what, m.Hear(replies(1, r...)), goesBack(1, back(t, w, r...)...))
		}
	}
}

func TestMoreThanMayBeAreNotPeeled(t *testing.T) {
	// one that is forged would be met if it were peeled
	b := book.New(true, tape.New(some(1, 900)))
	w := wrapped(1, 1)[0]
	b.Share(w.Keys[0])
	real := book.New(false, nil)
	real.Share(w.Keys[0])
	for _, b := range []*book.Book{b, real} {
		h := server(few(), "")
		h.Book = b
		m := made(t, h, 1)
		deaf(t, "too many", m, batch(1, append(junk(58, 1), w.Onion)...))
		if b.Forged() != 0 || h.Tape.Used() != 0 {
			t.Error(b.Forged(), h.Tape.Used())
		}
	}
	h := server(few(), "")
	h.Book = real
	m := made(t, h, 1)
	m.Hear(batch(1, append(junk(57, 1), w.Onion)...))
	if real.Forged() != 1 {
		t.Error(real.Forged())
	}
}

func TestBatchesThatAreNone(t *testing.T) {
	l := onions(2, 6)
	good := list(secondOnion, l...)
	var none []api.Frame
	with := func(turn func(x *api.Frame)) {
		x := batch(6, l...)
		turn(&x)
		none = append(none, x)
	}
	for _, s := range []string{"", "\x00", "\x01\x00", "\x02\x00", "\x00\x00x", "\x00\x01", "\x41\x00", "\xff\xff", l[0], "\x00\x02" + good[2:], "\x02\x01" + good[2:],
		"\x01\x00" + good[2:], "\x03\x00" + good[2:], "\x00" + good, good[1:], good[2:], good[:len(good)-1], good + "x", good + good, nought(len(good)), some(1, len(good)),
		"\x41\x00" + strings.Repeat("o", 65*secondOnion), "\x01\x01" + strings.Repeat("o", 257*secondOnion), list(thirdOnion, some(1, thirdOnion)), list(secondReply, some(1, secondReply)),
		list(196, some(1, 196)), list(147, some(1, 147)), list(149, some(1, 149))} {
		with(func(x *api.Frame) { x.Data = s })
	}
	for _, from := range []int{0, 2, 3, 4, 5, -1, 256 + 1, 1<<32 + 1, math.MinInt + 1, math.MaxInt} {
		with(func(x *api.Frame) { x.From = from })
	}
	for _, to := range []int{0, 1, 3, 4, 5, -2, 256 + 2, 1<<32 + 2, math.MinInt + 2, math.MaxInt} {
		with(func(x *api.Frame) { x.To = to })
	}
	for _, kind := range []int{0, 1, 2, 4, 5, 6, 7, -1, 256 + 3, 1<<32 + 3, math.MinInt + 3, math.MaxInt} {
		with(func(x *api.Frame) { x.Kind = kind })
	}
	h := server(few(), lucky(1, 1, 9)+lucky(1, 1, 10))
	m := made(t, h, 3)
	deaf(t, "it rests, round 0", m, none...)
	if h.Tape.Used() != 0 {
		t.Error(h.Tape.Used())
	}
	first := onions(2, 5)
	w, on := twin(t, server(few(), lucky(1, 1, 9)), 5, first...)
	sends(t, "a batch", m.Hear(batch(5, first...)), goesOn(5, on...))
	used := h.Tape.Used()
	for range 2 {
		deaf(t, "it waits", m, none...)
		idle(t, "it waits", m, 1)
	}
	r := forReplies(5, 1)
	sends(t, "it waited for these", m.Hear(replies(5, r...)), goesBack(5, back(t, w, r...)...))
	deaf(t, "it rests", m, none...)
	if h.Tape.Used() != used {
		t.Error(h.Tape.Used(), used)
	}
	h.Tape.Take(2 + 3000 - used)
	_, on = twin(t, server(few(), lucky(1, 1, 10)), 6, l...)
	sends(t, "the good one", m.Hear(batch(6, l...)), goesOn(6, on...))
	stands(t, "the good one", m, 6, 2)
}

func TestBatchesByTheirRounds(t *testing.T) {
	// above its own alone, whether it rests or waits; how far above does not count
	for _, own := range []uint64{0, 1, 2, 5, 255, 256, 1<<32 - 1, 1 << 32, 1<<63 - 1, 1 << 63, last - 1, last} {
		for _, it := range []uint64{0, 1, 2, 4, 5, 6, 255, 256, 257, 1<<32 - 1, 1 << 32, 1<<32 + 1, 1<<63 - 1, 1 << 63, 1<<63 + 1, last - 1, last} {
			for _, rests := range []bool{true, false} {
				if own == 0 && !rests {
					continue
				}
				what := fmt.Sprintf("%d behind %d, it rests: %v", it, own, rests)
				m := made(t, server(still(), ""), 2)
				if own > 0 {
					sends(t, what, m.Hear(batch(own)), goesOn(own))
					idle(t, what, m, 1)
					phase := 2
					if rests {
						sends(t, what, m.Hear(replies(own)), goesBack(own))
						phase = 0
					}
					stands(t, what, m, own, phase)
				}
				if it <= own {
					deaf(t, what, m, batch(it), batch(it, onions(1, it)...))
					if rests {
						idle(t, what, m, 5)
						continue
					}
					sends(t, what, m.Tick(), aborts(own)) // the wait is as it was
					continue
				}
				sends(t, what, m.Hear(batch(it)), goesOn(it))
				stands(t, what, m, it, 2)
				idle(t, what, m, 1) // the wait is a whole one
				deaf(t, what, m, batch(it), batch(own), replies(own), abort(own))
				sends(t, what, m.Tick(), aborts(it))
				stands(t, what, m, it, 0)
				deaf(t, what, m, batch(it), batch(own), replies(own), replies(it), abort(it))
			}
		}
	}
}

func TestALaterBatchForgetsWhatWasWaitedFor(t *testing.T) {
	m, _ := waiting(t)
	idle(t, "waits", m, 2)
	l := onions(3, 6)
	// of another count than the one ahead
	h := server(few(), lucky(1, 1, 9)+lucky(1, 1, 10))
	twin(t, h, 5, onions(2, 5)...)
	w, on := twin(t, h, 6, l...)
	sends(t, "the later one", m.Hear(batch(6, l...)), goesOn(6, on...))
	stands(t, "the later one", m, 6, 2)
	if len(on) == 5 {
		t.Fatal(len(on))
	}
	idle(t, "the later one", m, 2)
	deaf(t, "of the elder one", m, replies(5, forReplies(5, 1)...), replies(6, forReplies(5, 1)...), replies(5, forReplies(len(on), 1)...), abort(5))
	r := forReplies(len(on), 2)
	sends(t, "the later one's replies", m.Hear(replies(6, r...)), goesBack(6, back(t, w, r...)...))
	idle(t, "it rests", m, 9)
}

func TestALaterBatchThatComesToAnErrorForgetsToo(t *testing.T) {
	s := lucky(1, 1, 9)
	h := server(few(), s)
	twin(t, h, 5, onions(2, 5)...)
	used := h.Tape.Used()
	m := made(t, server(few(), s[:used]+strings.Repeat("\xff", 4)), 3)
	m.Hear(batch(5, onions(2, 5)...))
	stands(t, "waits", m, 5, 2)
	idle(t, "waits", m, 2)
	sends(t, "the later one", m.Hear(batch(9, onions(2, 9)...)), aborts(9))
	stands(t, "the later one", m, 9, 0)
	idle(t, "it rests", m, 5)
	deaf(t, "it rests", m, replies(5, forReplies(5, 1)...), replies(9, forReplies(5, 1)...), replies(9), abort(5), abort(9), batch(9), batch(6))
	sends(t, "the next one", m.Hear(batch(10)), goesOn(10))
}

func TestOnionsThatAreRefused(t *testing.T) {
	// what does not open goes back as noughts, and does not go on; of two that are alike the first one counts
	all := wrapped(3, 4)
	a, c := all[0], all[2]
	other := onions(1, 3)[0] // of another round
	m := made(t, server(still(), "\x00\x00"+nought(8)), 3)
	l := m.Hear(batch(4, some(1, 148), a.Onion, other, c.Onion, strings.Clone(a.Onion)))
	inA, _, _ := onion.Peel(nil, 4, 2, secrets()[1], a.Onion)
	inC, _, _ := onion.Peel(nil, 4, 2, secrets()[1], c.Onion)
	sends(t, "two go on", l, goesOn(4, inC, inA)) // a draw of 0 has the two change places
	r := forReplies(2, 1)
	told := m.Hear(replies(4, r...))
	none := nought(secondReply)
	sends(t, "five go back", told, goesBack(4, none, onion.Close(nil, 4, a.Keys[0], r[1]), none, onion.Close(nil, 4, c.Keys[0], r[0]), none))

	// an onion for another server
	w, e := onion.Wrap(nil, tape.New(some(1, 96)), 5, 3, pubs(), make([]bool, 3), some(1, 52))
	if e != api.OK {
		t.Fatal(e)
	}
	sends(t, "none goes on", m.Hear(batch(5, w.Onion+nought(48))), goesOn(5))
	sends(t, "one goes back", m.Hear(replies(5)), goesBack(5, none))
}

// capped are tapes' texts by which Forward, of one onion and of a table of 0, 1, 2, comes to an error.
func capped() map[string]string {
	made := some(5, 52+88+3*32) // a one, a pair, and what their layers are made of
	return map[string]string{
		"the first draw":  strings.Repeat("\xff", 4),
		"the second draw": "\x01" + strings.Repeat("\xff", 4),
		// of four that go on the draws of a number below 4 are never over; below 3 ffff is
		"the shuffle": "\x01\x01" + made + "\x00\x00" + strings.Repeat("\xff\xff", 4),
	}
}

func TestAnErrorOfForwardAborts(t *testing.T) {
	for name, s := range capped() {
		h := server(few(), s+lucky(0, 0, 3))
		m := made(t, h, 2)
		l := onions(1, 5)
		g := server(few(), s)
		if _, _, e := g.Forward(5, l...); e != api.ErrCap || g.Tape.Used() != len(s) {
			t.Fatal(name, e, g.Tape.Used(), len(s))
		}
		sends(t, name, m.Hear(batch(5, l...)), aborts(5))
		stands(t, name, m, 5, 0)
		if h.Tape.Used() != len(s) {
			t.Error(name, h.Tape.Used(), len(s))
		}
		// its round is taken
		deaf(t, name, m, batch(5, l...), batch(4), replies(5), replies(5, forReplies(4, 1)...), abort(5))
		idle(t, name, m, 5)
		later := onions(1, 6)
		_, on := twin(t, server(few(), lucky(0, 0, 3)), 6, later...)
		sends(t, name, m.Hear(batch(6, later...)), goesOn(6, on...))
		stands(t, name, m, 6, 2)
	}
	for _, round := range []uint64{1, 1 << 63, last} {
		m := made(t, server(few(), strings.Repeat("\xff", 4)), 1)
		sends(t, "ErrCap", m.Hear(batch(round)), aborts(round))
		stands(t, "ErrCap", m, round, 0)
	}
}

func TestAWeakKeyAborts(t *testing.T) {
	// a cover can't be wrapped for server 3 if its public key is weak; where there are none, all goes well
	h := server(few(), "\x01\x00"+some(1, 52+32)+"\x00\x00"+some(2, 4))
	h.Pubs[2] = api.Key{}
	m := made(t, h, 2)
	sends(t, "weak", m.Hear(batch(1)), aborts(1))
	stands(t, "weak", m, 1, 0)
	h.Tape.Take(2 + 52 + 32 - h.Tape.Used())
	sends(t, "no covers", m.Hear(batch(2)), goesOn(2))
	stands(t, "no covers", m, 2, 2)

	h = server(few(), lucky(1, 1, 1)) // those of servers ahead are of no use here
	h.Pubs[0], h.Pubs[1] = api.Key{}, api.Key{}
	_, on := twin(t, server(few(), lucky(1, 1, 1)), 3)
	sends(t, "servers 1 and 2", made(t, h, 2).Hear(batch(3)), goesOn(3, on...))
}

// P22.2: Replies.

func TestRepliesThatAreNone(t *testing.T) {
	m, w := waiting(t)
	r := forReplies(5, 1)
	good := list(thirdReply, r...)
	var none []api.Frame
	with := func(turn func(x *api.Frame)) {
		x := replies(5, r...)
		turn(&x)
		none = append(none, x)
	}
	for n := range 9 {
		if n != 5 { // another count; another one is told than there are
			with(func(x *api.Frame) { x.Data = list(thirdReply, forReplies(n, 1)...) })
			with(func(x *api.Frame) { x.Data = string([]byte{byte(n), 0}) + good[2:] })
			with(func(x *api.Frame) { x.Data = "\x05\x00" + strings.Join(forReplies(n, 1), "") })
		}
	}
	with(func(x *api.Frame) { x.Data = list(thirdReply, forReplies(64, 1)...) })
	for _, size := range []int{1, 36, 51, 53, 68, 84, 100, 148, 196, 256} { // another size
		with(func(x *api.Frame) { x.Data = list(size, texts(5, 1, size)...) })
	}
	for _, s := range []string{"", "\x05", "\x05\x00", "\x00\x05" + good[2:], "\x05\x01" + good[2:], "\x00" + good, good[1:], good[2:], good[:len(good)-1], good + "x", good + good,
		nought(len(good)), some(1, len(good)), "\x45\x00" + good[2:]} {
		with(func(x *api.Frame) { x.Data = s })
	}
	for _, from := range []int{0, 1, 2, 4, 5, 6, -3, 256 + 3, 1<<32 + 3, math.MinInt + 3, math.MaxInt} {
		with(func(x *api.Frame) { x.From = from })
	}
	for _, to := range []int{0, 1, 3, 4, 5, -2, 256 + 2, 1<<32 + 2, math.MinInt + 2, math.MaxInt} {
		with(func(x *api.Frame) { x.To = to })
	}
	for _, kind := range []int{0, 1, 2, 3, 5, 7, -1, 256 + 4, 1<<32 + 4, math.MinInt + 4, math.MaxInt} {
		with(func(x *api.Frame) { x.Kind = kind })
	}
	for _, round := range []uint64{0, 1, 4, 6, 7, 256 + 5, 1<<32 + 5, last} {
		with(func(x *api.Frame) { x.Round = round })
	}
	deaf(t, "replies that are none", m, none...)
	idle(t, "waits", m, 2)
	deaf(t, "replies that are none", m, none...)
	sends(t, "good ones", m.Hear(replies(5, r...)), goesBack(5, back(t, w, r...)...))
	stands(t, "good ones", m, 5, 0)
	deaf(t, "it rests", m, none...)
	deaf(t, "once more", m, replies(5, r...))
	idle(t, "it rests", m, 9)
}

func TestRepliesThatAreNoneDoNotPutTheEndOff(t *testing.T) {
	m, _ := waiting(t)
	few := replies(5, forReplies(4, 1)...)
	for range 2 {
		deaf(t, "too few", m, few)
		idle(t, "waits", m, 1)
	}
	deaf(t, "too few", m, few, batch(5), batch(4), replies(6, forReplies(5, 1)...))
	sends(t, "over", m.Tick(), aborts(5))
	stands(t, "over", m, 5, 0)
	deaf(t, "too late", m, replies(5, forReplies(5, 1)...), abort(5))
}

func TestEachReplyGoesWhereItsOnionCameFrom(t *testing.T) {
	all := wrapped(5, 8)
	var l []string
	for _, w := range all {
		l = append(l, w.Onion)
	}
	for seed := range 20 {
		m := made(t, server(few(), lucky(1, 1, 100+seed)), 1)
		sent := m.Hear(batch(8, l...))
		on, e := wire.Items(thirdOnion, sent[0].Data)
		if e != api.OK || len(on) != 8 {
			t.Fatal(e, len(on))
		}
		r := forReplies(8, seed)
		told := m.Hear(replies(8, r...))
		if len(told) != 1 || told[0].From != 2 || told[0].To != 1 || told[0].Kind != 4 || told[0].Round != 8 {
			t.Fatal(short(told))
		}
		came, e := wire.Items(secondReply, told[0].Data)
		if e != api.OK || len(came) != 5 {
			t.Fatal(e, len(came))
		}
		for i, w := range all {
			inside, _, _ := onion.Peel(nil, 8, 2, secrets()[1], w.Onion)
			got, ok := onion.Unwrap(nil, 8, w.Keys[:1], came[i])
			if !ok || got != r[slices.Index(on, inside)] {
				t.Error(seed, i, ok)
			}
		}
	}
}

func TestRepliesOfAnEmptyBatch(t *testing.T) {
	m := made(t, server(few(), lucky(1, 1, 1)), 1)
	m.Hear(batch(5))
	deaf(t, "of covers alone", m, replies(5), replies(5, forReplies(2, 1)...))
	sends(t, "of covers alone", m.Hear(replies(5, forReplies(3, 1)...)), goesBack(5))
	stands(t, "of covers alone", m, 5, 0)

	m = made(t, server(still(), ""), 1)
	m.Hear(batch(5))
	deaf(t, "of none", m, replies(5, forReplies(1, 1)...))
	sends(t, "of none", m.Hear(replies(5)), goesBack(5))
	stands(t, "of none", m, 5, 0)
}

// P22.2: Abort.

func TestAborts(t *testing.T) {
	var none []api.Frame
	with := func(turn func(x *api.Frame)) {
		x := abort(5)
		turn(&x)
		none = append(none, x)
	}
	for _, from := range []int{0, 1, 2, 4, 5, -3, 256 + 3, 1<<32 + 3, math.MinInt + 3, math.MaxInt} {
		with(func(x *api.Frame) { x.From = from })
	}
	for _, to := range []int{0, 1, 3, 4, -2, 256 + 2, 1<<32 + 2, math.MinInt + 2, math.MaxInt} {
		with(func(x *api.Frame) { x.To = to })
	}
	for _, kind := range []int{0, 1, 2, 3, 4, 5, 7, -1, 256 + 6, 1<<32 + 6, math.MinInt + 6, math.MaxInt} {
		with(func(x *api.Frame) { x.Kind = kind })
	}
	for _, round := range []uint64{0, 4, 6, 256 + 5, 1<<32 + 5, last} {
		with(func(x *api.Frame) { x.Round = round })
	}
	rests := made(t, server(still(), ""), 3)
	deaf(t, "it rests, round 0", rests, append(none, abort(5), abort(0))...)
	// what else it says does not count
	for i, s := range []string{"", "x", nought(secondReply)} {
		m, _ := waiting(t)
		deaf(t, "aborts that are none", m, none...)
		idle(t, "waits", m, i)
		x := abort(5)
		x.Data = s
		sends(t, "abort", m.Hear(x), aborts(5))
		stands(t, "abort", m, 5, 0)
		deaf(t, "it rests", m, append(none, x, replies(5, forReplies(5, 1)...))...)
		idle(t, "it rests", m, 9)
		if l := m.Hear(batch(6)); len(l) != 1 || l[0].Kind != api.Batch {
			t.Error(short(l))
		}
	}
}

// P22.3: ticks.

func TestTicksToTheEndOfAWaitAndBehindIt(t *testing.T) {
	for wait := 1; wait <= 60; wait++ {
		m := made(t, server(still(), ""), wait)
		for round := uint64(1); round <= 3; round++ {
			what := fmt.Sprintf("wait %d, round %d", wait, round)
			idle(t, what, m, int(round))
			sends(t, what, m.Hear(batch(round)), goesOn(round))
			stands(t, what, m, round, 2)
			idle(t, what, m, wait-1)
			sends(t, what, m.Tick(), aborts(round))
			stands(t, what, m, round, 0)
			idle(t, what, m, 2*wait+2)
			stands(t, what, m, round, 0)
		}
	}
}

func TestRepliesAtEachTick(t *testing.T) {
	// in the last one of its wait they come too late; what is left of a wait is not waited for in the next round
	for wait := 1; wait <= 8; wait++ {
		for late := range wait {
			for _, how := range []string{"replies", "abort"} {
				m := made(t, server(still(), ""), wait)
				for round := uint64(5); round <= 7; round++ {
					what := fmt.Sprintf("wait %d, %s %d ticks late, round %d", wait, how, late, round)
					sends(t, what, m.Hear(batch(round)), goesOn(round))
					idle(t, what, m, late)
					if how == "replies" {
						sends(t, what, m.Hear(replies(round)), goesBack(round))
					} else {
						sends(t, what, m.Hear(abort(round)), aborts(round))
					}
					stands(t, what, m, round, 0)
				}
				idle(t, how, m, 20)
				m.Hear(batch(8))
				idle(t, how, m, wait-1)
				sends(t, how, m.Tick(), aborts(8))
			}
		}
	}
}

func TestALaterBatchBeginsAWholeWait(t *testing.T) {
	for wait := 2; wait <= 8; wait++ {
		for late := range wait {
			m := made(t, server(still(), ""), wait)
			for round := uint64(1); round <= 5; round++ {
				sends(t, "batch", m.Hear(batch(round)), goesOn(round))
				idle(t, "waits", m, late)
			}
			idle(t, "waits", m, wait-1-late)
			sends(t, "over", m.Tick(), aborts(5))
			idle(t, "rests", m, 20)
		}
	}
}

// P22.2, P22.3: each phase with each frame.

func TestEachPhaseWithEachFrame(t *testing.T) {
	isBatch := func(x api.Frame) bool {
		return x.From == 1 && x.Kind == api.Batch && (x.Data == list(secondOnion) || len(x.Data) == 2+secondOnion)
	}
	h := server(few(), lucky(1, 1, 9))
	m := made(t, h, 3)
	deaf(t, "it rests, round 0", m, each(0)...)
	for _, x := range each(5) { // while it rests a Batch of server 1 counts, and nothing else
		if !isBatch(x) {
			deaf(t, "it rests", m, x)
		}
	}
	l := onions(2, 5)
	w, on := twin(t, server(few(), lucky(1, 1, 9)), 5, l...)
	sends(t, "a batch", m.Hear(batch(5, l...)), goesOn(5, on...))
	used := h.Tape.Used()
	for _, x := range each(5) { // while it waits Replies and Abort of server 3 count, too
		if x.From != 3 || x.Kind != api.Abort && (x.Kind != api.Replies || len(x.Data) != 2+5*thirdReply) {
			deaf(t, "it waits", m, x)
		}
	}
	for _, x := range each(6) {
		if !isBatch(x) {
			deaf(t, "it waits", m, x)
		}
	}
	deaf(t, "it waits", m, append(each(0), each(4)...)...)
	idle(t, "it waits", m, 2)
	r := forReplies(5, 7)
	sends(t, "replies", m.Hear(replies(5, r...)), goesBack(5, back(t, w, r...)...))
	deaf(t, "it rests", m, slices.Concat(each(0), each(4), each(5))...)
	if h.Tape.Used() != used {
		t.Error(h.Tape.Used(), used)
	}
}

func TestOnlyABatchTakesFromTheTape(t *testing.T) {
	h := server(still(), "")
	m := made(t, h, 2)
	used := func(n int) {
		t.Helper()
		if h.Tape.Used() != n {
			t.Error(h.Tape.Used(), "not", n)
		}
	}
	idle(t, "rests", m, 3)
	used(0)
	l := onions(2, 5)
	m.Hear(batch(5, l...))
	used(4) // two draws, and one of a shuffle
	m.Hear(batch(5, l...))
	m.Tick()
	m.Hear(replies(5, forReplies(1, 1)...))
	m.Hear(replies(5, forReplies(2, 1)...))
	m.Tick()
	m.Tick()
	used(4)
	m.Hear(batch(6))
	used(6)
	m.Hear(abort(6))
	used(6)
}

// Against a middle as the chapter's words have it.

// plain is a middle that counts its wait down, and reads what comes byte by byte.
type plain struct {
	h     hop.Hop
	wait  int
	round uint64
	left  int // ticks till what it waits for is over
	work  *hop.Work
}

func (p *plain) phase() int {
	if p.work != nil {
		return 2
	}
	return 0
}

func (p *plain) abort() []api.Frame {
	p.work = nil
	return aborts(p.round)
}

func (p *plain) tick() []api.Frame {
	p.left--
	if p.work != nil && p.left == 0 {
		return p.abort()
	}
	return nil
}

// items are those of a list, byte by byte; false: it is none.
func items(size int, s string) ([]string, bool) {
	if len(s) < 2 || s[1] != 0 || s[0] > 64 || len(s) != 2+int(s[0])*size {
		return nil, false
	}
	var l []string
	for i := range int(s[0]) {
		l = append(l, s[2+i*size:2+(i+1)*size])
	}
	return l, true
}

func (p *plain) hear(x api.Frame) []api.Frame {
	fromThree := x.To == 2 && x.From == 3 && x.Round == p.round && p.work != nil
	switch {
	case x.To == 2 && x.From == 1 && x.Kind == api.Batch && x.Round > p.round:
		l, ok := items(secondOnion, x.Data)
		if !ok || len(l) > 64-3*p.h.Table.Most() {
			return nil
		}
		p.work, p.round = nil, x.Round
		w, on, e := p.h.Forward(x.Round, l...)
		if e != api.OK {
			return aborts(p.round)
		}
		p.work, p.left = w, p.wait
		return goesOn(p.round, on...)
	case fromThree && x.Kind == api.Replies:
		l, ok := items(thirdReply, x.Data)
		if !ok || len(l) != p.work.Size() {
			return nil
		}
		r, e := p.work.Back(l...)
		if e != api.OK {
			panic(e)
		}
		p.work = nil
		return goesBack(p.round, r...)
	case fromThree && x.Kind == api.Abort:
		return p.abort()
	}
	return nil
}

// frames are some that might come, more of them of use than not.
func (p *plain) frames(r *rand.Rand, pool func(round uint64) []string) api.Frame {
	round := p.round + 1 + uint64(r.IntN(3))
	var l []string
	for _, s := range pool(round) {
		if r.IntN(2) == 0 {
			l = append(l, s)
		}
	}
	if r.IntN(8) == 0 {
		l = append(l, slices.Repeat(junk(1, r.IntN(99)), 52+r.IntN(6))...) // alike: not peeled
	}
	x := batch(round, l...)
	if p.work != nil && r.IntN(4) > 0 {
		n := p.work.Size()
		if r.IntN(4) == 0 {
			n = r.IntN(9)
		}
		x = replies(p.round, forReplies(n, r.IntN(100))...)
		if r.IntN(5) == 0 {
			x = abort(p.round)
		}
	}
	switch r.IntN(15) {
	case 0:
		x.From = r.IntN(6)
	case 1:
		x.To = r.IntN(6)
	case 2:
		x.Kind = r.IntN(8)
	case 3:
		x.Round += uint64(r.IntN(5)) - 2
	case 4:
		x.Data = x.Data[:len(x.Data)-min(len(x.Data), r.IntN(3))]
	case 5:
		x.Data += some(r.IntN(100), r.IntN(70))
	}
	return x
}

func TestRandomCourses(t *testing.T) {
	ends := map[int]int{} // how many frames of each kind were sent
	for seed := range 12 {
		r := rand.New(rand.NewPCG(22, uint64(seed)))
		x, s := few(), some(seed, 60000)
		ideal := seed%2 == 0
		g, h := server(x, s), server(x, s)
		g.Tries = 1 + r.IntN(4)
		h.Tries = g.Tries
		g.Book, h.Book = book.New(ideal, tape.New(some(seed, 9000))), book.New(ideal, tape.New(some(seed, 9000)))
		p := &plain{h: g, wait: 1 + r.IntN(4)}
		m := made(t, h, p.wait)
		pools := map[uint64][]string{}
		pool := func(round uint64) []string {
			if pools[round] == nil {
				pools[round] = shared(g.Book, h.Book, 50*seed, round)
			}
			return pools[round]
		}
		for n := range 80 {
			var got, want []api.Frame
			if r.IntN(3) == 0 {
				got, want = m.Tick(), p.tick()
			} else {
				x := p.frames(r, pool)
				got, want = m.Hear(x), p.hear(x)
			}
			what := fmt.Sprintf("course %d, step %d", seed, n)
			sends(t, what, got, want)
			stands(t, what, m, p.round, p.phase())
			if g.Tape.Used() != h.Tape.Used() || g.Book.Forged() != h.Book.Forged() {
				t.Fatal(what, g.Tape.Used(), h.Tape.Used(), g.Book.Forged(), h.Book.Forged())
			}
			for _, x := range got {
				ends[x.Kind]++
			}
		}
	}
	if ends[api.Batch] < 100 || ends[api.Replies] < 40 || ends[api.Abort] < 50 {
		t.Error(ends)
	}
}

// shared are onions of a round: some that open, as two books have them shared, one that is forged, some that don't open.
func shared(b, c *book.Book, seed int, round uint64) []string {
	l := []string{some(seed, secondOnion), nought(secondOnion)}
	for i := range 3 {
		for _, x := range []*book.Book{b, c} {
			w, _ := onion.Wrap(x, tape.New(some(seed+i, 96)), round, 2, pubs(), []bool{true, true, true}, some(seed+i, 52))
			if x == b {
				l = append(l, w.Onion)
			}
		}
	}
	w, _ := onion.Wrap(nil, tape.New(some(seed+9, 96)), round, 2, pubs(), make([]bool, 3), some(seed+9, 52))
	b.Share(w.Keys[0])
	c.Share(w.Keys[0])
	return append(l, w.Onion, l[2]) // two of them are alike
}

func TestManyRounds(t *testing.T) {
	// of one tape, with other onions in each of them
	s := some(77, 90000)
	g, h := server(few(), s), server(few(), s)
	g.Tries, h.Tries = 16, 16
	p := &plain{h: g, wait: 2}
	m := made(t, h, 2)
	for round := uint64(1); round <= 90; round++ {
		x := batch(round, onions(int(round%4), round)...)
		sends(t, "batch", m.Hear(x), p.hear(x))
		if round%3 > 0 {
			x = replies(round, forReplies(p.work.Size(), int(round))...)
			sends(t, "replies", m.Hear(x), p.hear(x))
			stands(t, "rests", m, round, 0)
		}
		sends(t, "tick", m.Tick(), p.tick())
	}
	if g.Tape.Used() != h.Tape.Used() {
		t.Error(g.Tape.Used(), h.Tape.Used())
	}
}

func TestAHundredThousandRounds(t *testing.T) {
	m := made(t, server(still(), ""), 1)
	for round := uint64(1); round <= 100000; round++ {
		if l := m.Hear(batch(round)); len(l) != 1 || l[0].Kind != api.Batch || l[0].Round != round || m.Round() != round || m.Phase() != 2 {
			t.Fatal(round, short(l))
		}
		if l := m.Tick(); len(l) != 1 || l[0].Kind != api.Abort || l[0].Round != round || m.Phase() != 0 {
			t.Fatal(round, short(l))
		}
	}
}

// In the ideal game, too, a reply opens where its onion came from; what is shared in the book is that of honest servers.

func TestBothGames(t *testing.T) {
	for _, ideal := range []bool{false, true} {
		for n := range 8 {
			b := book.New(ideal, tape.New(some(1, 9000)))
			who := []bool{n&1 > 0, n&2 > 0, n&4 > 0}
			w, e := onion.Wrap(b, tape.New(some(2, 96)), 1, 2, pubs(), who, some(3, 52))
			if e != api.OK {
				t.Fatal(e)
			}
			h := server(few(), lucky(1, 0, 3))
			h.Honest, h.Book = who, b
			m := made(t, h, 2)
			sent := m.Hear(batch(1, w.Onion))
			on, _ := wire.Items(thirdOnion, sent[0].Data)
			if len(on) != 2 {
				t.Fatal(ideal, n, len(on))
			}
			var came []string
			for _, o := range on { // server 3
				inside, k, ok := onion.Peel(b, 1, 3, secrets()[2], o)
				if !ok {
					t.Fatal(ideal, n)
				}
				came = append(came, onion.Close(b, 1, k, inside[16:]))
			}
			told := m.Hear(replies(1, came...))
			if len(told) != 1 || len(told[0].Data) != 2+secondReply {
				t.Fatal(ideal, n, short(told))
			}
			if got, ok := onion.Unwrap(b, 1, w.Keys, told[0].Data[2:]); !ok || got != some(3, 52)[16:] || b.Forged() != 0 {
				t.Error(ideal, n, ok, b.Forged())
			}
		}
	}
}

// 'Ways': a hop's and a clock's methods are a middle's own.

func TestMethodsThatArePromoted(t *testing.T) {
	m := made(t, server(few(), lucky(1, 1, 1)), 3)
	ticks, ok := any(m).(interface {
		Now() int
		Waits() bool
		Over() bool
	})
	if !ok {
		t.Fatal("no clock")
	}
	says := func(what string, now int, waits, over bool) {
		t.Helper()
		if ticks.Now() != now || ticks.Waits() != waits || ticks.Over() != over {
			t.Errorf("%s: Now %d, Waits %v, Over %v; want %d, %v, %v", what, ticks.Now(), ticks.Waits(), ticks.Over(), now, waits, over)
		}
	}
	says("New", 0, false, false)
	m.Tick()
	says("rests", 1, false, false)
	m.Hear(batch(5))
	says("waits", 1, true, false)
	m.Tick()
	m.Tick()
	says("waits", 3, true, false)
	m.Tick()
	says("rests", 4, false, false)
	m.Hear(batch(6))
	says("waits", 4, true, false)
	m.Hear(abort(6))
	says("rests", 4, false, false)

	works, ok := any(m).(interface {
		Forward(round uint64, onions ...string) (*hop.Work, []string, api.Errno)
		Last(round uint64, onions ...string) ([]string, api.Errno)
	})
	if !ok {
		t.Fatal("no hop")
	}
	if _, e := works.Last(1); e != api.ErrArg {
		t.Error(e)
	}
	g := made(t, server(few(), lucky(1, 1, 1)), 2)
	_, on, e := any(g).(interface {
		Forward(round uint64, onions ...string) (*hop.Work, []string, api.Errno)
	}).Forward(1)
	_, want := twin(t, server(few(), lucky(1, 1, 1)), 1)
	if e != api.OK || !slices.Equal(on, want) {
		t.Error(e, len(on))
	}
}

// Rules that hold everywhere.

func TestWhatIsHandedInIsAsItWasAndNotSeenThrough(t *testing.T) {
	keys := append(pubs(), api.Key{1}, api.Key{2})
	who := []bool{true, false, true, true, false}
	h := server(few(), lucky(1, 1, 1))
	h.Pubs, h.Honest, h.Book = keys[:3], who[:3], book.New(true, tape.New(some(1, 3000)))
	m := made(t, h, 2)
	if !slices.Equal(keys, append(pubs(), api.Key{1}, api.Key{2})) || !slices.Equal(who, []bool{true, false, true, true, false}) {
		t.Error("New changed a list")
	}
	clear(keys) // weak keys: no cover could be wrapped
	who[2] = false
	l := onions(2, 5)
	x := batch(5, l...)
	bytes := []byte(x.Data + "spare")
	x.Data = unsafe.String(&bytes[0], len(bytes)-5)
	told := m.Hear(x)
	if string(bytes) != list(secondOnion, l...)+"spare" {
		t.Error("Hear changed a text")
	}
	clear(bytes)
	g := server(few(), lucky(1, 1, 1))
	g.Honest, g.Book = []bool{true, false, true}, book.New(true, tape.New(some(1, 3000)))
	w, on := twin(t, g, 5, l...)
	sends(t, "the lists and the onions as they were", told, goesOn(5, on...))
	if !slices.Equal(keys, make([]api.Key, 5)) || !slices.Equal(who, []bool{true, false, false, true, false}) {
		t.Error("a round changed a list")
	}
	r := forReplies(5, 1)
	bytes = []byte(list(thirdReply, r...) + "spare")
	x = replies(5, r...)
	x.Data = unsafe.String(&bytes[0], len(bytes)-5)
	told = m.Hear(x)
	if string(bytes) != list(thirdReply, r...)+"spare" {
		t.Error("Hear changed a text")
	}
	clear(bytes)
	sends(t, "the replies as they were", told, goesBack(5, back(t, w, r...)...))
}

func TestTheTapeAndTheTableAndTheBookAreThoseThatAreHandedIn(t *testing.T) {
	s := lucky(1, 1, 1)
	h := server(few(), "\xff\xff"+s)
	h.Book = book.New(true, tape.New(some(1, 900)))
	m := made(t, h, 1)
	h.Tape.Take(2) // this is seen
	w := wrapped(1, 1)[0]
	h.Book.Share(w.Keys[0]) // nobody sealed anything under it: the onion does not open
	g := server(few(), s)
	g.Book = book.New(true, tape.New(some(1, 900)))
	g.Book.Share(w.Keys[0])
	_, on := twin(t, g, 1, w.Onion)
	if len(on) != 3 {
		t.Error(len(on))
	}
	sends(t, "the book is used", m.Hear(batch(1, w.Onion)), goesOn(1, on...))
	if h.Tape.Used() == 2 {
		t.Error("another tape")
	}
}

func TestTwoMiddlesOfOneHop(t *testing.T) {
	// they take from one tape; what else they have is each one's own
	s := lucky(0, 0, 1)
	h := server(few(), s)
	g := server(few(), s)
	a, b := made(t, h, 5), made(t, h, 2)
	l := onions(2, 3)
	aWork, on := twin(t, g, 3, l...)
	sends(t, "a", a.Hear(batch(3, l...)), goesOn(3, on...))
	stands(t, "b", b, 0, 0)
	bWork, more := twin(t, g, 2)
	sends(t, "b", b.Hear(batch(2)), goesOn(2, more...))
	stands(t, "a", a, 3, 2)
	r := forReplies(len(on), 1)
	sends(t, "a", a.Hear(replies(3, r...)), goesBack(3, back(t, aWork, r...)...))
	stands(t, "b", b, 2, 2)
	r = forReplies(len(more), 1)
	sends(t, "b", b.Hear(replies(2, r...)), goesBack(2, back(t, bWork, r...)...))
}

// apart holds that texts share no memory.
func apart(t *testing.T, what string, texts ...string) {
	t.Helper()
	type span struct{ from, to uintptr }
	var all []span
	for _, s := range texts {
		if s != "" {
			from := uintptr(unsafe.Pointer(unsafe.StringData(s)))
			all = append(all, span{from, from + uintptr(len(s))})
		}
	}
	slices.SortFunc(all, func(a, b span) int {
		if a.from < b.from {
			return -1
		}
		return 1
	})
	for i := 1; i < len(all); i++ {
		if all[i].from < all[i-1].to {
			t.Error(what, "shares memory")
			return
		}
	}
}

func TestWhatIsToldIsNewMemory(t *testing.T) {
	l := onions(2, 5)
	var texts []string
	var lists, were [][]api.Frame
	for range 2 {
		m := made(t, server(few(), lucky(1, 1, 1)), 1)
		x, y := batch(5, l...), replies(5, forReplies(5, 1)...)
		texts = append(texts, x.Data, y.Data)
		lists = append(lists, m.Hear(x), m.Hear(y), m.Hear(batch(6)), m.Tick())
	}
	for _, l := range lists {
		were = append(were, slices.Clone(l))
		for _, x := range l {
			texts = append(texts, x.Data)
		}
	}
	for i, l := range lists {
		sends(t, "what is told", l, were[i])
		clear(l[:cap(l)]) // those behind it are still as they were
	}
	apart(t, "what is told", texts...)

	// a list that was told may be written over: nothing of it is used again
	m := made(t, server(still(), ""), 1)
	for round := uint64(1); round <= 3; round++ {
		l := m.Hear(batch(round))
		sends(t, "goes on", l, goesOn(round))
		clear(l[:cap(l)])
		l = m.Hear(abort(round))
		sends(t, "aborts", l, aborts(round))
		clear(l[:cap(l)])
	}
}

func TestAnswersHangOnTheArgumentsAlone(t *testing.T) {
	course := func(between func()) []api.Frame {
		m := made(t, server(few(), lucky(1, 1, 5)), 2)
		var l []api.Frame
		do := func(told []api.Frame) {
			l = append(l, told...)
			between()
		}
		do(m.Hear(batch(1, onions(3, 1)...)))
		do(m.Tick())
		do(m.Hear(replies(1, forReplies(6, 1)...)))
		do(m.Tick())
		do(m.Hear(batch(2)))
		do(m.Tick())
		do(m.Tick())
		do(m.Hear(batch(9)))
		do(m.Hear(abort(9)))
		return l
	}
	want := course(func() {})
	other := made(t, server(few(), some(1, 9000)), 1)
	for range 5 {
		sends(t, "once more", course(func() {
			other.Hear(batch(other.Round() + 1))
			other.Tick()
		}), want)
	}
}
