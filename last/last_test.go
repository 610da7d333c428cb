package last_test

import (
	"crypto/sha256"
	"fmt"
	"math"
	"math/rand/v2"
	"slices"
	"strings"
	"testing"
	"unsafe"

	"billet/api"
	"billet/book"
	"billet/curve"
	"billet/hop"
	"billet/last"
	"billet/onion"
	"billet/table"
	"billet/tape"
	"billet/wire"
)

// some is n bytes that look like chance, the same for the same seed.
func some(seed, n int) string {
	var b []byte
	for i := 0; len(b) < n; i++ {
		h := sha256.Sum256(fmt.Append(nil, seed, i))
		b = append(b, h[:]...)
	}
	return string(b[:n])
}

func nought(n int) string {
	return strings.Repeat("\x00", n)
}

// Sizes: of an onion that comes to server 3, of the reply that it gives, and of the name and the box that an onion holds.
const (
	size, reply = 100, 52
	name, box   = 16, 36
)

// final is the round behind which there is none.
const final = math.MaxUint64

func secrets() []api.Key {
	var l []api.Key
	for i := range 3 {
		l = append(l, api.Key([]byte(some(900+i, 32))))
	}
	return l
}

func pubs() []api.Key {
	var l []api.Key
	for _, k := range secrets() {
		l = append(l, curve.Public(k))
	}
	return l
}

// server is the third server's hop, which lacks nothing.
func server(b *book.Book) hop.Hop {
	x, _ := table.New(2, 1, 1, 1)
	return hop.Hop{At: 3, Secret: secrets()[2], Pubs: pubs(), Honest: []bool{true, true, true}, Table: x, Tape: tape.New(some(1, 900)), Tries: 4, Book: b}
}

func made(t *testing.T, h hop.Hop) *last.Last {
	t.Helper()
	l, e := last.New(h)
	if l == nil || e != api.OK {
		t.Fatal("New:", e)
	}
	return l
}

// asked is a request: a name of one letter, and a box that tells which one it is.
func asked(letter string, n int) string {
	return strings.Repeat(letter, name) + some(7000+n, box)
}

// held is the box alone.
func held(n int) string {
	return some(7000+n, box)
}

// wrap is an onion of a round for server 3.
func wrap(round uint64, seed int, request string) onion.Wrapped {
	w, e := onion.Wrap(nil, tape.New(some(3000+seed, 32)), round, 3, pubs(), make([]bool, 3), request)
	if e != api.OK {
		panic(e)
	}
	return w
}

// row are onions of a round for server 3, each one's name a letter of a text.
func row(round uint64, letters string) (all []onion.Wrapped) {
	for i := range len(letters) {
		all = append(all, wrap(round, i, asked(letters[i:i+1], i)))
	}
	return all
}

// onions are these alone.
func onions(round uint64, letters string) []string {
	return these(row(round, letters))
}

func these(all []onion.Wrapped) []string {
	var l []string
	for _, w := range all {
		l = append(l, w.Onion)
	}
	return l
}

// junk are n onions that don't open, unlike all.
func junk(n, seed int) []string {
	return texts(n, seed, size)
}

func texts(n, seed, size int) []string {
	var l []string
	for i := range n {
		l = append(l, some(100000*(1+seed)+i, size))
	}
	return l
}

// list is items of a size in a row, and ahead of them how many they are.
func list(size int, l ...string) string {
	s, e := wire.List(size, l...)
	if e != api.OK {
		panic(e)
	}
	return s
}

func batch(round uint64, l ...string) api.Frame {
	return api.Frame{From: 2, To: 3, Kind: api.Batch, Round: round, Data: list(size, l...)}
}

// goesBack is what a last tells: replies to 2.
func goesBack(round uint64, l ...string) []api.Frame {
	return []api.Frame{{From: 3, To: 2, Kind: api.Replies, Round: round, Data: list(reply, l...)}}
}

// none are the replies of n onions that are refused.
func none(n int) []string {
	return slices.Repeat([]string{nought(reply)}, n)
}

// twin are the replies that another hop, which is like the last's, has.
func twin(t *testing.T, h hop.Hop, round uint64, l ...string) []string {
	t.Helper()
	r, e := h.Last(round, l...)
	if e != api.OK {
		t.Fatal(e)
	}
	return r
}

// short is frames as they are told where they are not the ones that should be.
func short(l []api.Frame) string {
	var b strings.Builder
	for _, x := range l {
		fmt.Fprintf(&b, "{%d to %d, kind %d, round %d, %d bytes}", x.From, x.To, x.Kind, x.Round, len(x.Data))
	}
	return b.String()
}

// sends holds what a last told against what it should.
func sends(t *testing.T, what string, got, want []api.Frame) {
	t.Helper()
	if !slices.Equal(got, want) {
		t.Fatalf("%s: %s; want %s", what, short(got), short(want))
	}
}

// stands holds a last's round against what it should be.
func stands(t *testing.T, what string, l *last.Last, round uint64) {
	t.Helper()
	if l.Round() != round {
		t.Fatalf("%s: round %d; want %d", what, l.Round(), round)
	}
}

// deaf holds that nothing comes of frames, and that the round is as it was.
func deaf(t *testing.T, what string, l *last.Last, frames ...api.Frame) {
	t.Helper()
	round := l.Round()
	for i, x := range frames {
		sends(t, fmt.Sprint(what, ", frame ", i, " ", short([]api.Frame{x})), l.Hear(x), nil)
		stands(t, fmt.Sprint(what, ", frame ", i, " ", short([]api.Frame{x})), l, round)
	}
}

// replies are those of the frame that a last told of a batch.
func replies(t *testing.T, told []api.Frame, round uint64, n int) []string {
	t.Helper()
	if len(told) != 1 || told[0].From != 3 || told[0].To != 2 || told[0].Kind != 4 || told[0].Round != round {
		t.Fatal(short(told))
	}
	r, ok := items(reply, told[0].Data)
	if !ok || len(r) != n {
		t.Fatal(short(told), len(r))
	}
	return r
}

// items are those of a list, byte by byte; false: it is none.
func items(size int, s string) ([]string, bool) {
	if len(s) < 2 || s[1] != 0 || s[0] > 64 || len(s) != 2+int(s[0])*size {
		return nil, false
	}
	var l []string
	for i := range int(s[0]) {
		l = append(l, s[2+i*size:2+(i+1)*size])
	}
	return l, true
}

// The chapter's examples.

func TestExamples(t *testing.T) {
	l := made(t, server(nil))
	told := l.Hear(batch(5))
	sends(t, "example 1", told, []api.Frame{{From: 3, To: 2, Kind: 4, Round: 5, Data: "\x00\x00"}})
	stands(t, "example 1", l, 5)
	sends(t, "example 2", l.Hear(batch(5)), nil)
	sends(t, "example 2", l.Hear(batch(5, onions(5, "aa")...)), nil)
	stands(t, "example 2", l, 5)
}

// P23.1: New.

func TestNewOfAHopThatIsNoThirdServers(t *testing.T) {
	for _, at := range []int{0, 1, 2, 4, 5, -1, -2, -3, 3 + 256, 3 + 1<<16, 3 + 1<<32, math.MinInt, math.MinInt + 3, math.MaxInt32, math.MaxInt} {
		for _, h := range []hop.Hop{server(nil), server(book.New(true, tape.New(some(1, 90)))), {}} {
			h.At = at
			if l, e := last.New(h); l != nil || e != api.ErrArg {
				t.Errorf("At %d: a last: %v, %d", at, l != nil, e)
			}
			if h.Tape.Used() != 0 {
				t.Error(at, h.Tape.Used())
			}
		}
	}
}

// lacking are third servers' hops that lack what a third server does not ask for, each in one way.
func lacking() map[string]hop.Hop {
	l := map[string]hop.Hop{}
	with := func(name string, turn func(h *hop.Hop)) {
		h := server(nil)
		turn(&h)
		l[name] = h
	}
	for _, n := range []int{0, 1, 2, 4, 6, 3 + 256} {
		with(fmt.Sprint("pubs ", n), func(h *hop.Hop) { h.Pubs = slices.Repeat(h.Pubs, 100)[:n] })
		with(fmt.Sprint("honest ", n), func(h *hop.Hop) { h.Honest = slices.Repeat(h.Honest, 100)[:n] })
	}
	with("weak pubs", func(h *hop.Hop) { h.Pubs = make([]api.Key, 3) })
	with("nobody is honest", func(h *hop.Hop) { h.Honest = make([]bool, 3) })
	with("no lists", func(h *hop.Hop) { h.Pubs, h.Honest = nil, nil })
	with("no table", func(h *hop.Hop) { h.Table = nil })
	with("no tape", func(h *hop.Hop) { h.Tape = nil })
	with("an empty tape", func(h *hop.Hop) { h.Tape = tape.New("") })
	for _, n := range []int{0, 1, 16, 17, -1, math.MinInt, math.MaxInt} {
		with(fmt.Sprint("tries ", n), func(h *hop.Hop) { h.Tries = n })
	}
	for _, ideal := range []bool{false, true} {
		with(fmt.Sprint("a book, ideal: ", ideal), func(h *hop.Hop) { h.Book = book.New(ideal, tape.New("")) })
	}
	with("all but the secret", func(h *hop.Hop) { *h = hop.Hop{At: 3, Secret: h.Secret} })
	return l
}

func TestNewOfAHopThatLacksWhatIsNotAskedFor(t *testing.T) {
	all := row(2, "abab")
	want := []string{held(2), held(3), held(0), held(1)}
	for name, h := range lacking() {
		used := h.Tape.Used()
		l := made(t, h)
		stands(t, name, l, 0)
		r := replies(t, l.Hear(batch(2, these(all)...)), 2, 4)
		for i, w := range all {
			if s, ok := onion.Unwrap(nil, 2, w.Keys, r[i]); !ok || s != want[i] {
				t.Error(name, i, ok)
			}
		}
		if h.Tape.Used() != used {
			t.Error(name, h.Tape.Used())
		}
	}
	// without a secret, too, it is a last: all onions are refused
	l := made(t, hop.Hop{At: 3})
	stands(t, "no secret", l, 0)
	sends(t, "no secret", l.Hear(batch(2, these(all)...)), goesBack(2, none(4)...))
}

func TestOfNil(t *testing.T) {
	var l *last.Last
	for range 3 {
		for _, round := range []uint64{0, 1, 5, final} {
			for _, x := range each(round) {
				if told := l.Hear(x); len(told) != 0 {
					t.Error(short([]api.Frame{x}), short(told))
				}
			}
			if l.Round() != 0 {
				t.Error(l.Round())
			}
		}
	}
}

// P23.2: Batch.

// each is frames of each kind from each address, with each kind of data, in a round.
func each(round uint64) []api.Frame {
	var l []api.Frame
	data := []string{"", nought(size), nought(reply), list(size), list(size, junk(1, 1)...), list(size, junk(64, 1)...),
		list(reply, texts(1, 1, reply)...), list(148, texts(1, 1, 148)...)}
	for from := range 11 {
		for kind := range 8 {
			for _, s := range data {
				l = append(l, api.Frame{From: from, To: 3, Kind: kind, Round: round, Data: s})
			}
		}
	}
	return l
}

// counts tells if a frame is a batch from server 2 to server 3, of what each has as data.
func counts(x api.Frame) bool {
	_, ok := items(size, x.Data)
	return x.To == 3 && x.From == 2 && x.Kind == 3 && ok
}

func TestEachFrame(t *testing.T) {
	deaf(t, "round 0", made(t, server(nil)), each(0)...)
	taken := 0
	for _, x := range each(9) {
		l := made(t, server(nil))
		sends(t, "round 6", l.Hear(batch(6)), goesBack(6))
		if !counts(x) {
			deaf(t, "round 9 behind 6", l, x)
			continue
		}
		taken++
		sends(t, "round 9 behind 6", l.Hear(x), goesBack(9, none(int(x.Data[0]))...))
		stands(t, "round 9 behind 6", l, 9)
		deaf(t, "round 9 behind 9", l, x)
	}
	if taken != 3 {
		t.Error(taken)
	}
	l := made(t, server(nil))
	l.Hear(batch(6))
	deaf(t, "behind 6", l, slices.Concat(each(0), each(1), each(5), each(6))...)
}

func TestBatchesThatAreNone(t *testing.T) {
	l := onions(6, "aa")
	good := list(size, l...)
	var no []api.Frame
	with := func(turn func(x *api.Frame)) {
		x := batch(6, l...)
		turn(&x)
		no = append(no, x)
	}
	for _, s := range []string{"", "\x00", "\x01\x00", "\x02\x00", "\x00\x00x", "\x00\x01", "\x41\x00", "\xff\xff", l[0], "\x00\x02" + good[2:], "\x02\x01" + good[2:],
		"\x01\x00" + good[2:], "\x03\x00" + good[2:], "\x00" + good, good[1:], good[2:], good[:len(good)-1], good + "x", good + good, nought(len(good)), some(1, len(good)),
		"\x41\x00" + strings.Repeat("o", 65*size), "\x42\x00" + strings.Repeat("o", 66*size), "\x80\x00" + strings.Repeat("o", 128*size), "\xff\x00" + strings.Repeat("o", 255*size),
		"\x00\x01" + strings.Repeat("o", 256*size), "\x01\x01" + strings.Repeat("o", 257*size), "\x41\x00" + strings.Join(append(junk(64, 1), l[0]), ""),
		"\x40\x00" + strings.Repeat("o", 65*size), "\x41\x00" + strings.Repeat("o", 64*size)} {
		with(func(x *api.Frame) { x.Data = s })
	}
	for _, n := range []int{1, 36, 52, 68, 84, 99, 101, 148, 196, 256} { // another size
		with(func(x *api.Frame) { x.Data = list(n, texts(1, 1, n)...) })
		with(func(x *api.Frame) { x.Data = list(n, texts(2, 1, n)...) })
	}
	for _, from := range []int{0, 1, 3, 4, 5, -2, 256 + 2, 1<<32 + 2, math.MinInt + 2, math.MaxInt} {
		with(func(x *api.Frame) { x.From = from })
	}
	for _, to := range []int{0, 1, 2, 4, 5, -3, 256 + 3, 1<<32 + 3, math.MinInt + 3, math.MaxInt} {
		with(func(x *api.Frame) { x.To = to })
	}
	for _, kind := range []int{0, 1, 2, 4, 5, 6, 7, -1, 256 + 3, 1<<32 + 3, math.MinInt + 3, math.MaxInt} {
		with(func(x *api.Frame) { x.Kind = kind })
	}
	with(func(x *api.Frame) { x.From, x.To = x.To, x.From })
	m := made(t, server(nil))
	deaf(t, "round 0", m, no...)
	sends(t, "a batch", m.Hear(batch(5)), goesBack(5))
	deaf(t, "round 5", m, no...)
	sends(t, "the good one", m.Hear(batch(6, l...)), goesBack(6, twin(t, server(nil), 6, l...)...))
	stands(t, "the good one", m, 6)
	for i := range no {
		no[i].Round = 7
	}
	deaf(t, "round 6", m, no...)
}

func TestBatchesOfEachCount(t *testing.T) {
	m := made(t, server(nil))
	for n := 0; n <= 64; n++ {
		round := uint64(n + 1)
		l := junk(n, n)
		want := none(n)
		if n > 1 { // two that meet, at the ends
			all := row(round, "zz")
			l[0], l[n-1] = all[0].Onion, all[1].Onion
			want[0] = onion.Close(nil, round, all[0].Keys[0], held(1))
			want[n-1] = onion.Close(nil, round, all[1].Keys[0], held(0))
		}
		told := m.Hear(batch(round, l...))
		sends(t, fmt.Sprint(n), told, goesBack(round, want...))
		stands(t, fmt.Sprint(n), m, round)
		if len(told[0].Data) != 2+n*reply || told[0].Data[:2] != string([]byte{byte(n), 0}) {
			t.Error(n, len(told[0].Data))
		}
	}
}

func TestAFullBatchOfGoodOnions(t *testing.T) {
	// 32 pairs, one of each in the first half
	var first []byte
	for i := range 32 {
		first = append(first, byte(8*i+1))
	}
	all := row(3, string(first)+string(first))
	r := replies(t, made(t, server(nil)).Hear(batch(3, these(all)...)), 3, 64)
	for i, w := range all {
		if s, ok := onion.Unwrap(nil, 3, w.Keys, r[i]); !ok || s != held((i+32)%64) {
			t.Error(i, ok)
		}
	}
}

func TestBatchesByTheirRounds(t *testing.T) {
	// above its own alone; how far above does not count
	for _, own := range []uint64{0, 1, 2, 5, 255, 256, 1<<32 - 1, 1 << 32, 1<<63 - 1, 1 << 63, final - 1, final} {
		for _, it := range []uint64{0, 1, 2, 4, 5, 6, 255, 256, 257, 1<<32 - 1, 1 << 32, 1<<32 + 1, 1<<63 - 1, 1 << 63, 1<<63 + 1, final - 1, final} {
			what := fmt.Sprintf("%d behind %d", it, own)
			m := made(t, server(nil))
			if own > 0 {
				sends(t, what, m.Hear(batch(own)), goesBack(own))
				stands(t, what, m, own)
			}
			l := onions(it, "aa")
			if it <= own {
				deaf(t, what, m, batch(it), batch(it, l...))
				continue
			}
			sends(t, what, m.Hear(batch(it, l...)), goesBack(it, twin(t, server(nil), it, l...)...))
			stands(t, what, m, it)
			deaf(t, what, m, batch(it), batch(it, l...), batch(own), batch(0))
		}
	}
}

func TestWhatIsNoBatchIsNotPeeled(t *testing.T) {
	// one that is forged would be met if it were peeled
	real := book.New(false, nil)
	w := wrap(5, 1, asked("a", 1))
	real.Share(w.Keys[0])
	m := made(t, server(real))
	x := batch(5, w.Onion)
	for _, turn := range []func(x *api.Frame){
		func(x *api.Frame) { x.Round = 0 },
		func(x *api.Frame) { x.From = 1 },
		func(x *api.Frame) { x.To = 2 },
		func(x *api.Frame) { x.Kind = api.Replies },
		func(x *api.Frame) { x.Data += "x" },
		func(x *api.Frame) { x.Data = "\x41\x00" + strings.Join(append(junk(64, 1), w.Onion), "") },
	} {
		y := x
		turn(&y)
		deaf(t, "no batch", m, y)
	}
	if real.Forged() != 0 {
		t.Error(real.Forged())
	}
	sends(t, "a batch", m.Hear(x), goesBack(5, twin(t, server(nil), 5, w.Onion)...))
	if real.Forged() != 1 {
		t.Error(real.Forged())
	}
	deaf(t, "once more", m, x, x)
	if real.Forged() != 1 {
		t.Error(real.Forged())
	}
}

func TestItsRoundIsThatOfTheBatch(t *testing.T) {
	// onions of another round do not open, whether it is the one ahead or the one behind
	m := made(t, server(nil))
	for round := uint64(1); round <= 5; round++ {
		for _, other := range []uint64{round - 1, round + 1, round + 256, round + 1<<32} {
			fresh := made(t, server(nil))
			sends(t, "another round's", fresh.Hear(batch(round, onions(other, "aa")...)), goesBack(round, none(2)...))
		}
		l := row(round, "aa")
		r := replies(t, m.Hear(batch(round, these(l)...)), round, 2)
		for i, w := range l {
			if s, ok := onion.Unwrap(nil, round, w.Keys, r[i]); !ok || s != held(1-i) {
				t.Error(round, i, ok)
			}
		}
	}
}

// What is answered.

func TestWhoMeetsWhom(t *testing.T) {
	// of each name that two bear they are told each other's box; of one that another count bears, noughts
	for letters, partners := range map[string][]int{
		"a":        {-1},
		"ab":       {-1, -1},
		"aa":       {1, 0},
		"aaa":      {-1, -1, -1},
		"aba":      {2, -1, 0},
		"abba":     {3, 2, 1, 0},
		"aabb":     {1, 0, 3, 2},
		"abab":     {2, 3, 0, 1},
		"aaab":     {-1, -1, -1, -1},
		"aaaa":     {-1, -1, -1, -1},
		"bcaacdba": {6, 4, -1, -1, 1, -1, 0, -1},
		"\x00\x00": {1, 0}, // a name of noughts is one
		"\xff\x00": {-1, -1},
	} {
		all := row(4, letters)
		m := made(t, server(nil))
		r := replies(t, m.Hear(batch(4, these(all)...)), 4, len(letters))
		for i, p := range partners {
			want := nought(box)
			if p >= 0 {
				want = held(p)
			}
			if s, ok := onion.Unwrap(nil, 4, all[i].Keys, r[i]); !ok || s != want {
				t.Errorf("%q: %d: %v", letters, i, ok)
			}
		}
	}
}

func TestNamesAreHeldAgainstEachOtherWhole(t *testing.T) {
	for at := range name {
		n := []byte(some(8, name))
		n[at] ^= 1
		a, b := wrap(1, 1, some(8, name)+held(1)), wrap(1, 2, string(n)+held(2))
		r := replies(t, made(t, server(nil)).Hear(batch(1, a.Onion, b.Onion)), 1, 2)
		for i, w := range []onion.Wrapped{a, b} {
			if s, ok := onion.Unwrap(nil, 1, w.Keys, r[i]); !ok || s != nought(box) {
				t.Error(at, i, ok)
			}
		}
	}
}

func TestOnionsThatAreRefused(t *testing.T) {
	// what does not open is told noughts; of those that are alike the first one counts, and so does no name twice
	all := row(4, "aab")
	a, b, c := all[0].Onion, all[1].Onion, all[2].Onion
	m := made(t, server(nil))
	told := m.Hear(batch(4, junk(1, 1)[0], a, strings.Clone(a), c, nought(size), b, c, a))
	no := nought(reply)
	sends(t, "eight", told, goesBack(4, no, onion.Close(nil, 4, all[0].Keys[0], held(1)), no,
		onion.Close(nil, 4, all[2].Keys[0], nought(box)), no, onion.Close(nil, 4, all[1].Keys[0], held(0)), no, no))

	// each byte of an onion counts: its partner is alone then
	for at := range size {
		turned := []byte(row(5, "a")[0].Onion)
		turned[at] ^= 1
		l := row(5, "xa")
		sends(t, fmt.Sprint("turned at ", at), made(t, server(nil)).Hear(batch(5, string(turned), l[1].Onion)),
			goesBack(5, no, onion.Close(nil, 5, l[1].Keys[0], nought(box))))
	}

	// an onion for another server, or by other keys
	w, e := onion.Wrap(nil, tape.New(some(1, 96)), 6, 2, pubs(), make([]bool, 3), asked("a", 1))
	if e != api.OK {
		t.Fatal(e)
	}
	inside, _, ok := onion.Peel(nil, 6, 2, secrets()[1], w.Onion)
	if !ok {
		t.Fatal("no onion of server 2")
	}
	l := made(t, server(nil))
	sends(t, "what server 2 had", l.Hear(batch(6, w.Onion[:size])), goesBack(6, no))
	sends(t, "a round later", l.Hear(batch(7, inside)), goesBack(7, no))
	h := server(nil)
	h.Secret = secrets()[1]
	sends(t, "another secret", made(t, h).Hear(batch(6, inside)), goesBack(6, no))
	sends(t, "what it has peeled", made(t, server(nil)).Hear(batch(6, inside)), goesBack(6, onion.Close(nil, 6, w.Keys[1], nought(box))))
}

// In the ideal game, too, a reply opens where its onion came from; what is shared in the book is that of honest servers.

func TestBothGames(t *testing.T) {
	for _, ideal := range []bool{false, true} {
		for n := range 8 {
			b := book.New(ideal, tape.New(some(1, 9000)))
			who := []bool{n&1 > 0, n&2 > 0, n&4 > 0}
			var all []onion.Wrapped
			for i := range 3 {
				w, e := onion.Wrap(b, tape.New(some(20+i, 96)), 1, 3, pubs(), who, asked("aba"[i:i+1], i))
				if e != api.OK {
					t.Fatal(e)
				}
				all = append(all, w)
			}
			h := server(b)
			h.Honest = who
			m := made(t, h)
			r := replies(t, m.Hear(batch(1, these(all)...)), 1, 3)
			for i, want := range []string{held(2), nought(box), held(0)} {
				if s, ok := onion.Unwrap(b, 1, all[i].Keys, r[i]); !ok || s != want || b.Forged() != 0 {
					t.Error(ideal, n, i, ok, b.Forged())
				}
			}
			// what nobody sealed under a shared key opens in the real game, as a forgery, and not in the ideal one
			w := wrap(2, 50, asked("a", 1))
			b.Share(w.Keys[0])
			r = replies(t, m.Hear(batch(2, w.Onion)), 2, 1)
			if (r[0] == nought(reply)) != ideal || (b.Forged() == 1) == ideal {
				t.Error(ideal, n, b.Forged())
			}
		}
	}
}

func TestThereAndBack(t *testing.T) {
	// through the hops of servers 1 and 2, with covers
	for seed := range 5 {
		b := book.New(seed%2 == 0, tape.New(some(seed, 60000)))
		at := func(n int) hop.Hop {
			h := server(b)
			h.At, h.Secret = n, secrets()[n-1]
			s := []byte(some(40*seed+n, 3000))
			for i := range s {
				s[i] &= 0x7f // no draw needs a second try
			}
			s[0], s[1] = byte(1+seed%2), 1 // 1, or 0 and 2 of the table's numbers
			h.Tape = tape.New(string(s))
			return h
		}
		var all []onion.Wrapped
		for i := range 6 {
			w, e := onion.Wrap(b, tape.New(some(60*seed+i, 96)), 9, 1, pubs(), []bool{true, true, true}, asked("abcbad"[i:i+1], i))
			if e != api.OK {
				t.Fatal(e)
			}
			all = append(all, w)
		}
		first, on, e := at(1).Forward(9, these(all)...)
		if e != api.OK {
			t.Fatal(e)
		}
		second, on, e := at(2).Forward(9, on...)
		if e != api.OK {
			t.Fatal(e)
		}
		m := made(t, at(3))
		r := replies(t, m.Hear(batch(9, on...)), 9, len(on))
		if len(on) <= 6 {
			t.Error(len(on))
		}
		r, e = second.Back(r...)
		if e != api.OK {
			t.Fatal(e)
		}
		r, e = first.Back(r...)
		if e != api.OK {
			t.Fatal(e)
		}
		for i, p := range []int{4, 3, -1, 1, 0, -1} {
			want := nought(box)
			if p >= 0 {
				want = held(p)
			}
			if s, ok := onion.Unwrap(b, 9, all[i].Keys, r[i]); !ok || s != want || b.Forged() != 0 {
				t.Error(seed, i, ok, b.Forged())
			}
		}
	}
}

// Against a last as the chapter's words have it.

// plain is a last that reads what comes byte by byte, and looks for partners one by one.
type plain struct {
	b     *book.Book
	round uint64
}

func (p *plain) hear(x api.Frame) []api.Frame {
	came, ok := items(size, x.Data)
	if !ok || x.To != 3 || x.From != 2 || x.Kind != 3 || x.Round <= p.round {
		return nil
	}
	p.round = x.Round
	requests := make([]string, len(came))
	keys := make([]api.Key, len(came))
	for i, o := range came {
		if slices.Index(came, o) == i {
			requests[i], keys[i], _ = onion.Peel(p.b, x.Round, 3, secrets()[2], o)
		}
	}
	l := none(len(came))
	for i, r := range requests {
		if r == "" {
			continue
		}
		met := nought(box)
		bearers := 0
		for j, s := range requests {
			if s != "" && s[:name] == r[:name] {
				bearers++
				if j != i {
					met = s[name:]
				}
			}
		}
		if bearers != 2 {
			met = nought(box)
		}
		l[i] = onion.Close(p.b, x.Round, keys[i], met)
	}
	return goesBack(x.Round, l...)
}

// shared are onions of a round: some that open, as two books have them shared, some that are forged, some that don't open.
func shared(b, c *book.Book, seed int, round uint64) []string {
	l := []string{some(seed, size), nought(size)}
	for i := range 5 {
		for _, x := range []*book.Book{b, c} {
			w, _ := onion.Wrap(x, tape.New(some(seed+i, 32)), round, 3, pubs(), []bool{true, true, true}, asked("ababc"[i:i+1], i))
			if x == b {
				l = append(l, w.Onion)
			}
		}
	}
	w := wrap(round, seed+9, asked("b", 9))
	b.Share(w.Keys[0])
	c.Share(w.Keys[0])
	return append(l, w.Onion, l[2], wrap(round, seed+10, asked("c", 10)).Onion) // two of them are alike
}

// frames are some that might come, more of them of use than not.
func (p *plain) frames(r *rand.Rand, pool func(round uint64) []string) api.Frame {
	round := p.round + 1 + uint64(r.IntN(3))
	var l []string
	for _, s := range pool(round) {
		if r.IntN(3) > 0 {
			l = append(l, s)
		}
	}
	r.Shuffle(len(l), func(i, j int) { l[i], l[j] = l[j], l[i] })
	if r.IntN(8) == 0 {
		l = append(l, slices.Repeat(junk(1, r.IntN(99)), 64-len(l))...) // alike: not peeled
	}
	x := batch(round, l...)
	switch r.IntN(15) {
	case 0:
		x.From = r.IntN(6)
	case 1:
		x.To = r.IntN(6)
	case 2:
		x.Kind = r.IntN(8)
	case 3:
		x.Round -= uint64(r.IntN(5))
	case 4:
		x.Data = x.Data[:len(x.Data)-min(len(x.Data), r.IntN(3))]
	case 5:
		x.Data += some(r.IntN(100), r.IntN(110))
	}
	return x
}

func TestRandomCourses(t *testing.T) {
	taken, forged := 0, 0
	for seed := range 8 {
		r := rand.New(rand.NewPCG(23, uint64(seed)))
		ideal := seed%2 == 0
		b, c := book.New(ideal, tape.New(some(seed, 60000))), book.New(ideal, tape.New(some(seed, 60000)))
		p := &plain{b: b}
		m := made(t, server(c))
		pools := map[uint64][]string{}
		pool := func(round uint64) []string {
			if pools[round] == nil {
				pools[round] = shared(b, c, 50*seed, round)
			}
			return pools[round]
		}
		for n := range 25 {
			x := p.frames(r, pool)
			what := fmt.Sprintf("course %d, step %d", seed, n)
			got, want := m.Hear(x), p.hear(x)
			sends(t, what, got, want)
			stands(t, what, m, p.round)
			if b.Forged() != c.Forged() {
				t.Fatal(what, b.Forged(), c.Forged())
			}
			taken += len(got)
		}
		forged += b.Forged()
	}
	if taken < 90 || taken > 180 || forged < 20 {
		t.Error(taken, forged)
	}
}

func TestAHundredThousandRounds(t *testing.T) {
	m := made(t, server(nil))
	for round := uint64(1); round <= 100000; round++ {
		if l := m.Hear(batch(round)); len(l) != 1 || l[0].Kind != api.Replies || l[0].Round != round || m.Round() != round {
			t.Fatal(round, short(l))
		}
		if l := m.Hear(batch(round)); len(l) != 0 || m.Round() != round {
			t.Fatal(round, short(l))
		}
	}
}

// 'Ways': a hop's methods are a last's own.

func TestMethodsThatArePromoted(t *testing.T) {
	m := made(t, server(nil))
	works, ok := any(m).(interface {
		Forward(round uint64, onions ...string) (*hop.Work, []string, api.Errno)
		Last(round uint64, onions ...string) ([]string, api.Errno)
	})
	if !ok {
		t.Fatal("no hop")
	}
	if w, on, e := works.Forward(1); w != nil || len(on) != 0 || e != api.ErrArg {
		t.Error(e)
	}
	l := append(onions(7, "aba"), junk(2, 1)...)
	for range 2 { // it is the hop's: the round of the last does not count, nor change
		r, e := works.Last(7, l...)
		if e != api.OK || !slices.Equal(r, twin(t, server(nil), 7, l...)) {
			t.Error(e, len(r))
		}
		stands(t, "Last", m, 0)
	}
	if r, e := works.Last(7, junk(65, 1)...); len(r) != 0 || e != api.ErrMany {
		t.Error(e, len(r))
	}
	sends(t, "a batch", m.Hear(batch(7, l...)), goesBack(7, twin(t, server(nil), 7, l...)...))
}

// Rules that hold everywhere.

func TestWhatIsHandedInIsAsItWasAndNotSeenThrough(t *testing.T) {
	keys := append(pubs(), api.Key{1}, api.Key{2})
	who := []bool{true, false, true, true, false}
	h := server(book.New(true, tape.New(some(1, 3000))))
	h.Pubs, h.Honest = keys[:3], who[:3]
	m := made(t, h)
	if !slices.Equal(keys, append(pubs(), api.Key{1}, api.Key{2})) || !slices.Equal(who, []bool{true, false, true, true, false}) {
		t.Error("New changed a list")
	}
	h.At, h.Secret, h.Book = 1, api.Key{}, nil // another hop: the last's is as it was
	clear(keys)
	who[2] = false
	l := onions(5, "aab")
	x := batch(5, l...)
	bytes := []byte(x.Data + "spare")
	x.Data = unsafe.String(&bytes[0], len(bytes)-5)
	told := m.Hear(x)
	if string(bytes) != list(size, l...)+"spare" {
		t.Error("Hear changed a text")
	}
	clear(bytes)
	sends(t, "as it was", told, goesBack(5, twin(t, server(nil), 5, l...)...))
	if !slices.Equal(keys, make([]api.Key, 5)) || !slices.Equal(who, []bool{true, false, false, true, false}) {
		t.Error("a round changed a list")
	}
}

func TestTheBookIsTheOneThatIsHandedIn(t *testing.T) {
	b := book.New(true, tape.New(some(1, 3000)))
	m := made(t, server(b))
	w := wrap(1, 1, asked("a", 1))
	b.Share(w.Keys[0]) // nobody sealed anything under it: the onion does not open
	sends(t, "the book is used", m.Hear(batch(1, w.Onion)), goesBack(1, none(1)...))
	good, e := onion.Wrap(b, tape.New(some(2, 32)), 2, 3, pubs(), []bool{true, true, true}, asked("a", 1))
	if e != api.OK {
		t.Fatal(e)
	}
	r := replies(t, m.Hear(batch(2, good.Onion)), 2, 1)
	if s, ok := onion.Unwrap(b, 2, good.Keys, r[0]); !ok || s != nought(box) {
		t.Error(ok)
	}
}

func TestTwoLastsOfOneHop(t *testing.T) {
	h := server(nil)
	a, b := made(t, h), made(t, h)
	l := onions(3, "aa")
	want := goesBack(3, twin(t, h, 3, l...)...)
	sends(t, "a", a.Hear(batch(3, l...)), want)
	stands(t, "b", b, 0)
	sends(t, "b", b.Hear(batch(2)), goesBack(2))
	stands(t, "a", a, 3)
	sends(t, "b", b.Hear(batch(3, l...)), want)
	deaf(t, "a", a, batch(2), batch(3, l...))
}

// apart holds that texts share no memory.
func apart(t *testing.T, what string, texts ...string) {
	t.Helper()
	type span struct{ from, to uintptr }
	var all []span
	for _, s := range texts {
		if s != "" {
			from := uintptr(unsafe.Pointer(unsafe.StringData(s)))
			all = append(all, span{from, from + uintptr(len(s))})
		}
	}
	slices.SortFunc(all, func(a, b span) int {
		if a.from < b.from {
			return -1
		}
		return 1
	})
	for i := 1; i < len(all); i++ {
		if all[i].from < all[i-1].to {
			t.Error(what, "shares memory")
			return
		}
	}
}

func TestWhatIsToldIsNewMemory(t *testing.T) {
	l := onions(5, "aa")
	var texts []string
	var lists, were [][]api.Frame
	for range 2 {
		m := made(t, server(nil))
		for round := uint64(5); round <= 7; round++ {
			x := batch(round, l...)
			texts = append(texts, x.Data)
			lists = append(lists, m.Hear(x))
		}
	}
	for _, l := range lists {
		were = append(were, slices.Clone(l))
		for _, x := range l {
			texts = append(texts, x.Data)
		}
	}
	for i, l := range lists {
		sends(t, "what is told", l, were[i])
		clear(l[:cap(l)]) // those behind it are still as they were
	}
	apart(t, "what is told", texts...)

	// a list that was told may be written over: nothing of it is used again
	m := made(t, server(nil))
	for round := uint64(1); round <= 3; round++ {
		l := m.Hear(batch(round))
		sends(t, "goes back", l, goesBack(round))
		clear(l[:cap(l)])
	}
}

func TestAnswersHangOnTheArgumentsAlone(t *testing.T) {
	course := func(between func()) []api.Frame {
		m := made(t, server(book.New(true, tape.New(some(1, 900)))))
		var l []api.Frame
		do := func(told []api.Frame) {
			l = append(l, told...)
			between()
		}
		do(m.Hear(batch(1, onions(1, "aabcb")...)))
		do(m.Hear(batch(1, onions(1, "xy")...)))
		do(m.Hear(batch(2)))
		do(m.Hear(batch(9, onions(9, "aaab")...)))
		do(m.Hear(batch(4, onions(4, "aa")...)))
		return l
	}
	want := course(func() {})
	if len(want) != 3 {
		t.Error(len(want))
	}
	other := made(t, server(nil))
	for range 20 {
		sends(t, "once more", course(func() { other.Hear(batch(other.Round()+1, onions(1, "a")...)) }), want)
	}
}
