package hop_test

import (
	"crypto/sha256"
	"fmt"
	"math"
	"math/rand/v2"
	"slices"
	"strings"
	"testing"
	"unsafe"

	"billet/aead"
	"billet/api"
	"billet/book"
	"billet/cover"
	"billet/curve"
	"billet/derive"
	"billet/drop"
	"billet/hop"
	"billet/onion"
	"billet/order"
	"billet/table"
	"billet/tape"
	"billet/wire"
)

// some is n bytes that look like chance, the same for the same seed.
func some(seed, n int) string {
	var b []byte
	for i := 0; len(b) < n; i++ {
		h := sha256.Sum256(fmt.Append(nil, seed, i))
		b = append(b, h[:]...)
	}
	return string(b[:n])
}

func nought(n int) string {
	return strings.Repeat("\x00", n)
}

// turned is a text of which one byte is another one.
func turned(s string, at int) string {
	return s[:at] + string([]byte{s[at] ^ 0x40}) + s[at+1:]
}

// pairs is numbers, two bytes each, the lowest first: the draws of a shuffle.
func pairs(l ...int) string {
	var b []byte
	for _, v := range l {
		b = append(b, byte(v), byte(v>>8))
	}
	return string(b)
}

// The sizes of onions that come to a server, and of the replies that it gives.
var onionSizes, replySizes = [4]int{0, 196, 148, 100}, [4]int{0, 84, 68, 52}

func secrets() []api.Key {
	var l []api.Key
	for i := range 3 {
		l = append(l, api.Key([]byte(some(900+i, 32))))
	}
	return l
}

func pubs() []api.Key {
	var l []api.Key
	for _, k := range secrets() {
		l = append(l, curve.Public(k))
	}
	return l
}

func honest() []bool { return []bool{true, true, true} }

// kind is a table of the ratio 2 to 1: a draw of it takes one byte.
type kind struct{ reach, middle int }

func (k kind) table() *table.Table {
	t, _ := table.New(2, 1, k.reach, k.middle)
	return t
}

func (k kind) weight(n int) int {
	return 1 << (k.reach - max(n-k.middle, k.middle-n))
}

// word is the least byte that draws n.
func (k kind) word(n int) string {
	sum := 0
	for m := k.middle - k.reach; m < n; m++ {
		sum += k.weight(m)
	}
	return string([]byte{byte(sum)})
}

// mask is which of a byte's bits count in a draw.
func (k kind) mask() int {
	total := 0
	for n := k.middle - k.reach; n <= k.middle+k.reach; n++ {
		total += k.weight(n)
	}
	m := 1
	for m <= total {
		m *= 2
	}
	return m - 1
}

// kinds are all tables of that ratio.
func kinds() []kind {
	var l []kind
	for reach := range 5 {
		for middle := reach; middle+reach <= 8; middle++ {
			l = append(l, kind{reach, middle})
		}
	}
	return l
}

// Tables that the tests take often: the number 0 alone; 0, 1, 2.
var still, few = kind{0, 0}, kind{1, 1}

// server is a server's hop that lacks nothing.
func server(at int, k kind, s string) hop.Hop {
	return hop.Hop{At: at, Secret: secrets()[at-1], Pubs: pubs(), Honest: honest(), Table: k.table(), Tape: tape.New(s), Tries: 4}
}

// request is that of a name's number and a box's.
func request(id, box int) string {
	return some(id, 16) + some(-1-box, 36)
}

// wrapped is an onion for the servers from one on, which nobody shares.
func wrapped(from int, round uint64, seed int, inner string) onion.Wrapped {
	w, e := onion.Wrap(nil, tape.New(some(seed, 96)), round, from, pubs(), make([]bool, 3), inner)
	if e != api.OK {
		panic(e)
	}
	return w
}

// users are n onions for the servers from one on, and what each holds at the end.
func users(n, from int, round uint64) (all []onion.Wrapped, onions []string) {
	for i := range n {
		w := wrapped(from, round, 3000+i, request(i, i))
		all, onions = append(all, w), append(onions, w.Onion)
	}
	return all, onions
}

// peeled is what an onion of a server holds.
func peeled(t *testing.T, at int, round uint64, s string) string {
	t.Helper()
	inside, _, ok := onion.Peel(nil, round, at, secrets()[at-1], s)
	if !ok {
		t.Fatalf("server %d does not peel %d bytes", at, len(s))
	}
	return inside
}

func goes(t *testing.T, h hop.Hop, round uint64, onions ...string) (*hop.Work, []string) {
	t.Helper()
	w, on, e := h.Forward(round, onions...)
	if w == nil || e != api.OK || w.Size() != len(on) {
		t.Fatalf("Forward of %d: %d, %d go on", len(onions), e, len(on))
	}
	return w, on
}

func refused(t *testing.T, h hop.Hop, want api.Errno, round uint64, onions ...string) {
	t.Helper()
	if w, on, e := h.Forward(round, onions...); w != nil || len(on) != 0 || e != want {
		t.Errorf("Forward of %d: a work: %v, %d go on, %d; not %d", len(onions), w != nil, len(on), e, want)
	}
}

func comesBack(t *testing.T, w *hop.Work, replies ...string) []string {
	t.Helper()
	l, e := w.Back(replies...)
	if e != api.OK {
		t.Fatalf("Back of %d: %d", len(replies), e)
	}
	return l
}

// reader takes from a text byte by byte, and noughts behind its end.
type reader struct {
	s    string
	used int
}

func (r *reader) take(n int) string {
	var b []byte
	for range n {
		c := byte(0)
		if r.used < len(r.s) {
			c = r.s[r.used]
		}
		b = append(b, c)
		r.used++
	}
	return string(b)
}

func (r *reader) draw(k kind, tries int) (int, bool) {
	for range tries {
		w := int(r.take(1)[0]) & k.mask()
		for n := k.middle - k.reach; n <= k.middle+k.reach; n++ {
			if w < k.weight(n) {
				return n, true
			}
			w -= k.weight(n)
		}
	}
	return 0, false
}

func (r *reader) below(n, tries int) (int, bool) {
	for range tries {
		s := r.take(2)
		if v := int(s[0]) + 256*int(s[1]); v < 65536/n*n {
			return v % n, true
		}
	}
	return 0, false
}

// run is what a Forward comes to, and what is to be remembered of it.
type run struct {
	e          api.Errno
	used       int
	on         []string
	places     []int     // of the good onions
	keys       []api.Key // theirs
	layers     []api.Key // the covers'
	went       []int     // where the good ones went, and behind them the covers
	ones, twos int
}

// plainForward is Forward as the chapter's words have it, of a tape's text that is read byte by byte.
func plainForward(h hop.Hop, k kind, s string, round uint64, onions []string) run {
	if len(onions) > 64-3*(k.middle+k.reach) {
		return run{e: api.ErrMany}
	}
	var out run
	var all []string
	for i, o := range onions {
		if first := slices.Index(onions, o); first < i {
			continue
		}
		if inside, key, ok := onion.Peel(h.Book, round, h.At, h.Secret, o); ok {
			all, out.places, out.keys = append(all, inside), append(out.places, i), append(out.keys, key)
		}
	}
	r := &reader{s: s}
	ones, ok := r.draw(k, h.Tries)
	if !ok {
		return run{e: api.ErrCap, used: r.used}
	}
	twos, ok := r.draw(k, h.Tries)
	if !ok {
		return run{e: api.ErrCap, used: r.used}
	}
	out.ones, out.twos = ones, twos
	var covers []string
	for range ones {
		covers = append(covers, r.take(52))
	}
	for range twos {
		id := r.take(16)
		covers = append(covers, id+r.take(36), id+r.take(36))
	}
	for _, c := range covers {
		w, e := onion.Wrap(h.Book, tape.New(r.take(32*(3-h.At))), round, h.At+1, h.Pubs, h.Honest, c)
		if e != api.OK {
			return run{e: e, used: r.used}
		}
		all, out.layers = append(all, w.Onion), append(out.layers, w.Keys...)
	}
	var row []int
	for i := range all {
		row = append(row, i)
	}
	for i := len(all) - 1; i > 0; i-- {
		j, ok := r.below(i+1, h.Tries)
		if !ok {
			return run{e: api.ErrCap, used: r.used}
		}
		row[i], row[j] = row[j], row[i]
	}
	out.went = make([]int, len(all))
	for at, n := range row {
		out.on, out.went[n] = append(out.on, all[n]), at
	}
	out.used = r.used
	return out
}

// plainBack is Back of that, as the chapter's words have it.
func (x run) plainBack(h hop.Hop, size int, round uint64, replies []string) []string {
	l := slices.Repeat([]string{nought(replySizes[h.At])}, size)
	for i, at := range x.places {
		l[at] = onion.Close(h.Book, round, x.keys[i], replies[x.went[i]])
	}
	return l
}

// repliesTo are n replies that come to a server, unlike all.
func repliesTo(at, n, seed int) []string {
	var l []string
	for i := range n {
		l = append(l, some(100000*(1+seed)+i, replySizes[at+1]))
	}
	return l
}

// asThePlain holds a Forward, and a Back, against what the chapter's words lead to; of two books that have been through the same.
func asThePlain(t *testing.T, h hop.Hop, k kind, s string, b, c *book.Book, round uint64, onions ...string) run {
	t.Helper()
	h.Tape = tape.New(s)
	h.Book = c
	want := plainForward(h, k, s, round, onions)
	h.Book = b
	w, on, e := h.Forward(round, onions...)
	if e != want.e || !slices.Equal(on, want.on) || (w != nil) != (e == api.OK) || h.Tape.Used() != want.used || b.Forged() != c.Forged() {
		t.Fatalf("at %d, %d onions: %d, %d go on, Used %d, Forged %d; not %d, %d, %d, %d",
			h.At, len(onions), e, len(on), h.Tape.Used(), b.Forged(), want.e, len(want.on), want.used, c.Forged())
	}
	if e != api.OK {
		return want
	}
	if ones, twos := w.Covers(); w.Size() != len(want.on) || ones != want.ones || twos != want.twos {
		t.Fatal(w.Size(), ones, twos, "not", len(want.on), want.ones, want.twos)
	}
	if h.Tape.Take(5) != (&reader{s: s, used: want.used}).take(5) {
		t.Fatal("the tape stands elsewhere")
	}
	replies := repliesTo(h.At, len(on), int(round%100))
	got := comesBack(t, w, replies...)
	h.Book = c
	if !slices.Equal(got, want.plainBack(h, len(onions), round, replies)) {
		t.Fatalf("at %d, %d onions: the replies are others", h.At, len(onions))
	}
	return want
}

// books are two of one game that have been through the same.
func books(ideal bool, seed int) (*book.Book, *book.Book) {
	return book.New(ideal, tape.New(some(seed, 8000))), book.New(ideal, tape.New(some(seed, 8000)))
}

// forged makes an onion that opens at a server and that nobody had sealed: peeled, it is counted.
func forged(b *book.Book, at int, round uint64, seed int) string {
	w := wrapped(at, round, seed, request(seed, seed))
	b.Share(w.Keys[0])
	return w.Onion
}

// P19.1: who may go forward

// lacking are hops that lack something, each in one way.
func lacking(at int, s string) map[string]hop.Hop {
	l := map[string]hop.Hop{}
	with := func(name string, turn func(h *hop.Hop)) {
		h := server(at, few, s)
		turn(&h)
		l[name] = h
	}
	for _, n := range []int{0, 3, 4, -1, -2, 5, 256 + 1, 1 << 32, 1<<32 + 1, 1<<32 + 2, math.MinInt, math.MinInt + 1, math.MaxInt} {
		with(fmt.Sprint("At ", n), func(h *hop.Hop) { h.At = n })
	}
	for _, n := range []int{0, 1, 2, 4, 6, 256 + 3} {
		with(fmt.Sprint("pubs ", n), func(h *hop.Hop) { h.Pubs = slices.Repeat(h.Pubs, 100)[:n] })
		with(fmt.Sprint("honest ", n), func(h *hop.Hop) { h.Honest = slices.Repeat(h.Honest, 100)[:n] })
		with(fmt.Sprint("both ", n), func(h *hop.Hop) {
			h.Pubs, h.Honest = slices.Repeat(h.Pubs, 100)[:n], slices.Repeat(h.Honest, 100)[:n]
		})
	}
	with("no pubs", func(h *hop.Hop) { h.Pubs = nil })
	with("no honest", func(h *hop.Hop) { h.Honest = nil })
	with("no table", func(h *hop.Hop) { h.Table = nil })
	for _, n := range []int{0, -1, -4, 17, 18, 256 + 4, 1 << 16, 1 << 32, 1<<32 + 4, math.MinInt, math.MinInt + 4, math.MaxInt} {
		with(fmt.Sprint("tries ", n), func(h *hop.Hop) { h.Tries = n })
	}
	return l
}

func TestAHopThatLacksSomething(t *testing.T) {
	many := slices.Repeat([]string{"x"}, 65)
	for at := 1; at <= 2; at++ {
		for name, h := range lacking(at, some(1, 2000)) {
			h.Book = book.New(false, nil)
			o := forged(h.Book, at, 5, 1)
			for _, l := range [][]string{nil, {o}, {"", o}, many[:58], many[:59], many} {
				if w, on, e := h.Forward(5, l...); w != nil || len(on) != 0 || e != api.ErrArg {
					t.Error(at, name, len(l), e)
				}
			}
			if h.Tape.Used() != 0 || h.Book.Forged() != 0 {
				t.Error(at, name, "taken", h.Tape.Used(), "forged", h.Book.Forged())
			}
		}
		h := server(at, few, "")
		h.Tape = nil
		refused(t, h, api.ErrArg, 5)
		refused(t, h, api.ErrArg, 5, many...)
	}
	refused(t, hop.Hop{}, api.ErrArg, 0)
	refused(t, hop.Hop{At: 1}, api.ErrArg, 0)
}

func TestTriesThatMayBe(t *testing.T) {
	for at := 1; at <= 2; at++ {
		for tries := 1; tries <= 16; tries++ {
			h := server(at, few, "")
			h.Tries = tries
			_, l := users(1, at, 2)
			miss := strings.Repeat("\x07", tries-1)
			asThePlain(t, h, few, miss+"\x01"+miss+"\x00"+some(1, 52+96)+strings.Repeat("\xff\xff", tries-1)+"\x01\x00", nil, nil, 2, l...)
			if x := asThePlain(t, h, few, miss+"\x07"+miss+"\x00"+some(1, 400), nil, nil, 2, l...); x.e != api.ErrCap {
				t.Error(at, tries, x.e)
			}
		}
	}
}

// P19.1: how many may come

func TestHowManyMayCome(t *testing.T) {
	for at := 1; at <= 2; at++ {
		for _, k := range kinds() {
			most := 64 - 3*(k.middle+k.reach)
			h := server(at, k, k.word(k.middle)+k.word(k.middle)+some(7, 5000))
			h.Book = book.New(false, nil)
			l := append([]string{forged(h.Book, at, 5, 1)}, slices.Repeat([]string{"x"}, 99)...)
			for _, n := range []int{most + 1, most + 2, 64, 65, 100} {
				if n > most {
					refused(t, h, api.ErrMany, 5, l[:n]...)
				}
			}
			if h.Tape.Used() != 0 || h.Book.Forged() != 0 {
				t.Error(at, k, "taken", h.Tape.Used(), "forged", h.Book.Forged())
			}
			w, on := goes(t, h, 5, l[:most]...)
			if ones, twos := w.Covers(); len(on) != 1+ones+2*twos || h.Book.Forged() != 1 {
				t.Error(at, k, len(on), h.Book.Forged())
			}
		}
	}
}

func TestAsManyAsMayBeAllGood(t *testing.T) {
	for at := 1; at <= 2; at++ {
		for _, k := range []kind{{0, 0}, {1, 1}, {4, 4}, {0, 8}} {
			most := k.middle + k.reach
			_, l := users(64-3*most, at, 9)
			s := k.word(most) + k.word(most) + some(at, 52*most+88*most+64*3*most) + some(at+10, 200)
			if x := asThePlain(t, server(at, k, ""), k, s, nil, nil, 9, l...); x.e != api.OK || len(x.on) != 64 {
				t.Error(at, k, x.e, len(x.on))
			}
			_, l = users(65-3*most, at, 9)
			if x := asThePlain(t, server(at, k, ""), k, s, nil, nil, 9, l...); x.e != api.ErrMany || x.used != 0 {
				t.Error(at, k, x.e)
			}
		}
	}
}

func TestOfNone(t *testing.T) {
	for at := 1; at <= 2; at++ {
		h := server(at, still, "")
		w, on := goes(t, h, 5)
		if ones, twos := w.Covers(); len(on) != 0 || w.Size() != 0 || ones != 0 || twos != 0 || h.Tape.Used() != 2 {
			t.Error(at, len(on), ones, twos, h.Tape.Used())
		}
		if l := comesBack(t, w); len(l) != 0 {
			t.Error(at, len(l))
		}
		for _, l := range [][]string{{""}, {nought(replySizes[at])}, {nought(replySizes[at+1])}} {
			if l, e := w.Back(l...); e != api.ErrForm || len(l) != 0 {
				t.Error(at, e)
			}
		}
		for seed := range 20 {
			x := asThePlain(t, server(at, few, ""), few, some(seed, 900), nil, nil, 5) // covers alone
			if x.e == api.OK && len(x.on) != x.ones+2*x.twos {
				t.Error(at, seed, len(x.on))
			}
		}
	}
}

// P19.1: by hand

func TestByHand(t *testing.T) {
	a, b, c := wrapped(2, 5, 1, request(1, 1)), wrapped(2, 5, 2, request(2, 2)), wrapped(2, 5, 3, request(3, 3))
	inside := func(w onion.Wrapped) string { return peeled(t, 2, 5, w.Onion) }
	covers := some(4, 52+88)
	one, two, three := covers[:52], covers[52:104], covers[52:68]+covers[104:]
	made := some(5, 96)
	// the draws: a one, a pair; then the covers; then what their layers are made of; of five what goes last is the number 2, then 0 ..
	s := "\x01\x02" + covers + made + pairs(2, 0, 1, 0)
	h := server(2, few, s)
	w, on := goes(t, h, 5, a.Onion, turned(b.Onion, 40), c.Onion)
	// a, c, one, two, three; the last place and 2 change; the 3rd one and 0; the 2nd one and 1; the 1st one and 0
	var wrap [3]onion.Wrapped
	for i, r := range []string{one, two, three} {
		wrap[i], _ = onion.Wrap(nil, tape.New(made[32*i:32*i+32]), 5, 3, pubs(), honest(), r)
	}
	row := []string{inside(a), inside(c), wrap[0].Onion, wrap[1].Onion, wrap[2].Onion}
	row[4], row[2] = row[2], row[4]
	row[3], row[0] = row[0], row[3]
	row[2], row[1] = row[1], row[2]
	row[1], row[0] = row[0], row[1]
	if !slices.Equal(on, row) || h.Tape.Used() != len(s) {
		t.Error("others go on", len(on), h.Tape.Used())
	}
	if ones, twos := w.Covers(); ones != 1 || twos != 1 {
		t.Error(ones, twos)
	}
	if slices.Index(on, inside(a)) != 3 || slices.Index(on, inside(c)) != 2 {
		t.Error(slices.Index(on, inside(a)), slices.Index(on, inside(c)))
	}
	r := repliesTo(2, 5, 1)
	back := comesBack(t, w, r...)
	nonce := derive.Nonce(api.ForReply, 5)
	if !slices.Equal(back, []string{aead.Seal(a.Keys[0], nonce, "", r[3]), nought(68), aead.Seal(c.Keys[0], nonce, "", r[2])}) {
		t.Error("others come back")
	}
}

func TestTwoThatAreAlike(t *testing.T) {
	for at := 1; at <= 2; at++ {
		u := wrapped(at, 3, 1, request(1, 1))
		w, on := goes(t, server(at, still, ""), 3, u.Onion, strings.Clone(u.Onion))
		if len(on) != 1 || on[0] != peeled(t, at, 3, u.Onion) {
			t.Error(at, len(on))
		}
		r := repliesTo(at, 1, 1)
		back := comesBack(t, w, r...)
		if len(back) != 2 || back[1] != nought(replySizes[at]) {
			t.Error(at, len(back))
		}
		if got, ok := onion.Unwrap(nil, 3, u.Keys[:1], back[0]); !ok || got != r[0] {
			t.Error(at, ok)
		}
	}
}

// TestCoversThatGoOn: what the next server finds is what the tape has, in its row, and each layer is one of the tape's.
func TestCoversThatGoOn(t *testing.T) {
	k := kind{4, 4}
	for at := 1; at <= 2; at++ {
		for _, n := range [][2]int{{0, 0}, {1, 0}, {0, 1}, {8, 0}, {0, 8}, {3, 5}, {8, 8}} {
			ones, twos := n[0], n[1]
			body := some(500+10*ones+twos, 52*ones+88*twos+64*(ones+2*twos))
			var want []string
			rest := body
			for range ones {
				want, rest = append(want, rest[:52]), rest[52:]
			}
			for range twos {
				want, rest = append(want, rest[:52], rest[:16]+rest[52:88]), rest[88:]
			}
			_, l := users(3, at, 6)
			h := server(at, k, k.word(ones)+k.word(twos)+body+some(3, 400))
			w, on := goes(t, h, 6, l...)
			if a, b := w.Covers(); a != ones || b != twos || len(on) != 3+ones+2*twos {
				t.Fatal(at, n, a, b, len(on))
			}
			for i := range 3 {
				want = append(want, request(i, i))
			}
			var got []string
			for _, o := range on {
				if len(o) != onionSizes[at+1] {
					t.Fatal(at, len(o))
				}
				for next := at + 1; next <= 3; next++ {
					o = peeled(t, next, 6, o)
				}
				got = append(got, o)
			}
			if a, b, m := drop.Count(got...); a != 3+ones || b != twos || m != 0 {
				t.Error(at, n, a, b, m)
			}
			slices.Sort(got)
			slices.Sort(want)
			if !slices.Equal(got, want) {
				t.Error(at, n, "others go on")
			}
		}
	}
}

// P19.1: against what the words lead to

func TestAsTheWordsLeadTo(t *testing.T) {
	seen := map[api.Errno]int{}
	for seed := range 150 {
		r := rand.New(rand.NewPCG(1, uint64(seed)))
		at, round := 1+r.IntN(2), r.Uint64()>>r.IntN(60)
		k := kinds()[r.IntN(len(kinds()))]
		var l []string
		for i := range r.IntN(7) {
			o := wrapped(at, round, 10*seed+i, request(i, i)).Onion
			switch r.IntN(6) {
			case 0:
				o = turned(o, r.IntN(len(o)))
			case 1:
				o = o[:r.IntN(len(o))]
			case 2:
				if i > 0 {
					o = l[r.IntN(i)]
				}
			}
			l = append(l, o)
		}
		h := server(at, k, "")
		h.Tries = 1 + r.IntN(3)
		x := asThePlain(t, h, k, some(seed, 1<<r.IntN(13)), nil, nil, round, l...)
		seen[x.e]++
	}
	if seen[api.OK] < 50 || seen[api.ErrCap] < 10 {
		t.Error(seen)
	}
}

// whoIsHonest are all ways to be honest, or not.
func whoIsHonest() [][]bool {
	var l [][]bool
	for n := range 8 {
		l = append(l, []bool{n&1 > 0, n&2 > 0, n&4 > 0})
	}
	return l
}

func TestInBothGames(t *testing.T) {
	for at := 1; at <= 2; at++ {
		for i, honest := range whoIsHonest() {
			for _, ideal := range []bool{false, true} {
				b, c := books(ideal, i)
				var l []string
				for n := range 3 { // what users of that book made
					w, _ := onion.Wrap(b, tape.New(some(70+n, 96)), 8, at, pubs(), honest, request(n, n))
					v, _ := onion.Wrap(c, tape.New(some(70+n, 96)), 8, at, pubs(), honest, request(n, n))
					if w.Onion != v.Onion {
						t.Fatal("two books")
					}
					l = append(l, w.Onion)
				}
				l = append(l, turned(l[1], 50), forged(b, at, 8, 77))
				forged(c, at, 8, 77)
				h := server(at, few, "")
				h.Honest = honest
				x := asThePlain(t, h, few, "\x03\x01"+some(i, 1000), b, c, 8, l...)
				good := 4
				if ideal {
					good = 3 // nobody sealed the last one
				}
				if x.e != api.OK || x.ones != 2 || x.twos != 1 || len(x.places) != good || b.Forged() != good-3 {
					t.Fatal(at, honest, ideal, x.e, len(x.places), b.Forged())
				}
				for j, key := range x.layers {
					if b.Shared(key) != honest[at+j%(3-at)] {
						t.Error(at, honest, ideal, j, "shared:", b.Shared(key))
					}
				}
				// one more draw of the book's tape shows if as much was taken
				b.Share(api.Key{1})
				c.Share(api.Key{1})
				if b.Key(api.Key{1}) != c.Key(api.Key{1}) {
					t.Error(at, honest, ideal, "the book's tape")
				}
			}
		}
	}
}

func TestOneTapeForTheBookAndTheHop(t *testing.T) {
	for at := 1; at <= 2; at++ {
		for _, who := range whoIsHonest() {
			s := some(at, 4000)
			p, q := tape.New("\x03\x01"+s), tape.New("\x03\x01"+s)
			h := server(at, few, "")
			h.Tape, h.Honest, h.Book = p, who, book.New(true, p)
			_, l := users(2, at, 4)
			_, on := goes(t, h, 4, l...)
			c := book.New(true, q)
			made, _ := cover.Make(q, few.table(), 4)
			all := []string{peeled(t, at, 4, l[0]), peeled(t, at, 4, l[1])}
			for _, r := range made.Requests {
				w, _ := onion.Wrap(c, q, 4, at+1, pubs(), who, r)
				all = append(all, w.Onion)
			}
			row, _ := order.Shuffle(q, len(all), 4)
			want, _ := order.Lay(row, all...)
			if !slices.Equal(on, want) || p.Used() != q.Used() || len(on) != 6 {
				t.Error(at, who, len(on), p.Used(), q.Used())
			}
		}
	}
}

// P19.1: which onion is good

// bad are onions that a server refuses, made of a good one.
func bad(at int, round uint64, good string) []string {
	l := []string{"", "x", nought(onionSizes[at]), strings.Repeat("\xff", onionSizes[at]), some(6, onionSizes[at]),
		good[:len(good)-1], good[1:], good + "\x00", good + good, good[:32], good[:52], some(5, 256) + good,
		wrapped(at, round+1, 8, request(8, 8)).Onion, // another round's
		wrapped(at, round+1<<32, 8, request(8, 8)).Onion,
		nought(32) + good[32:], // a weak key
		"\x01" + nought(31) + good[32:],
		wrapped(at%3+1, round, 8, request(8, 8)).Onion, // another server's
		wrapped((at+1)%3+1, round, 8, request(8, 8)).Onion,
	}
	for _, i := range []int{0, 1, 30, 31, 32, 33, 60, len(good) - 17, len(good) - 16, len(good) - 1} {
		l = append(l, turned(good, i))
	}
	// of its size, but wrapped for another secret
	p := pubs()
	p[at-1] = curve.Public(api.Key([]byte(some(55, 32))))
	w, _ := onion.Wrap(nil, tape.New(some(8, 96)), round, at, p, make([]bool, 3), request(8, 8))
	return append(l, w.Onion)
}

func TestOnionsThatDoNotOpen(t *testing.T) {
	for at := 1; at <= 2; at++ {
		a, b := wrapped(at, 5, 1, request(1, 1)), wrapped(at, 5, 2, request(2, 2))
		for i, x := range bad(at, 5, a.Onion) {
			for _, l := range [][]string{{x}, {x, x}, {x, a.Onion, b.Onion}, {a.Onion, x, b.Onion}, {a.Onion, b.Onion, x}, {x, a.Onion, x, b.Onion, x}} {
				var want []string
				for _, o := range l {
					if o != x {
						want = append(want, peeled(t, at, 5, o))
					}
				}
				w, on := goes(t, server(at, still, ""), 5, l...)
				if len(on) != len(want) {
					t.Fatal(at, i, len(l), len(on))
				}
				r := repliesTo(at, len(on), i)
				for n, told := range comesBack(t, w, r...) {
					if l[n] == x {
						if told != nought(replySizes[at]) {
							t.Error(at, i, n, "is told something")
						}
						continue
					}
					u := map[string]onion.Wrapped{a.Onion: a, b.Onion: b}[l[n]]
					reply := r[slices.Index(on, peeled(t, at, 5, l[n]))]
					if got, ok := onion.Unwrap(nil, 5, u.Keys[:1], told); !ok || got != reply {
						t.Error(at, i, n, ok)
					}
				}
			}
		}
	}
}

func TestTheFirstOfThoseThatAreAlikeCounts(t *testing.T) {
	for at := 1; at <= 2; at++ {
		a, b := wrapped(at, 5, 1, request(1, 1)), wrapped(at, 5, 2, request(2, 2))
		x := turned(a.Onion, 99)
		of := map[byte]string{'a': a.Onion, 'b': b.Onion, 'x': x}
		for _, row := range []string{"aa", "aab", "aba", "baa", "abab", "abba", "aaaa", "bbba", "xaxa", "xxaab", "axbxab", "xabxab"} {
			var l, want []string
			for _, c := range []byte(row) {
				l = append(l, strings.Clone(of[c]))
			}
			for i, c := range []byte(row) {
				if c != 'x' && strings.IndexByte(row, c) == i {
					want = append(want, peeled(t, at, 5, of[c]))
				}
			}
			w, on := goes(t, server(at, still, "\x00\x00"+pairs(1, 0)), 5, l...)
			if len(want) == 2 && !slices.Equal(on, want) || len(on) != len(want) {
				t.Error(at, row, len(on))
			}
			for i, told := range comesBack(t, w, repliesTo(at, len(on), 2)...) {
				if good := row[i] != 'x' && strings.IndexByte(row, row[i]) == i; good == (told == nought(replySizes[at])) {
					t.Error(at, row, i)
				}
			}
		}
	}
}

func TestThoseThatAreAlikeAreNotPeeled(t *testing.T) {
	// a forgery is counted for each time that it is peeled
	for at := 1; at <= 3; at++ {
		b := book.New(false, nil)
		x, y := forged(b, at, 5, 1), forged(b, at, 5, 2)
		l := []string{x, "z", strings.Clone(x), y, x, strings.Clone(y)}
		h := hop.Hop{At: 3, Secret: secrets()[2], Book: b}
		if at < 3 {
			h = server(at, still, "")
			h.Book = b
			goes(t, h, 5, l...)
		} else if _, e := h.Last(5, l...); e != api.OK {
			t.Error(e)
		}
		if b.Forged() != 2 {
			t.Error(at, b.Forged())
		}
	}
}

func TestUnlikeOnionsOfOneKeyOrOneRequest(t *testing.T) {
	for at := 1; at <= 2; at++ {
		u := []onion.Wrapped{
			wrapped(at, 5, 1, request(1, 1)),
			wrapped(at, 5, 1, request(1, 2)), // the same keys
			wrapped(at, 5, 2, request(1, 1)), // the same request
		}
		w, on := goes(t, server(at, still, ""), 5, u[0].Onion, u[1].Onion, u[2].Onion)
		if len(on) != 3 {
			t.Fatal(at, len(on))
		}
		r := repliesTo(at, 3, 1)
		for i, told := range comesBack(t, w, r...) {
			if got, ok := onion.Unwrap(nil, 5, u[i].Keys[:1], told); !ok || got != r[slices.Index(on, peeled(t, at, 5, u[i].Onion))] {
				t.Error(at, i, ok)
			}
		}
	}
}

func TestAnyRound(t *testing.T) {
	for at := 1; at <= 2; at++ {
		for _, round := range []uint64{0, 1, 255, 256, 1 << 32, 1<<63 - 1, 1 << 63, math.MaxUint64} {
			_, l := users(2, at, round)
			asThePlain(t, server(at, few, ""), few, some(1, 2000), nil, nil, round, l...)
		}
	}
}

// P19.1: errors of what is called

func TestAnErrorOfTheCovers(t *testing.T) {
	for at := 1; at <= 2; at++ {
		_, l := users(2, at, 5)
		for tries := 1; tries <= 16; tries++ {
			miss := strings.Repeat("\x07", tries)
			for i, s := range []string{miss, "\x00" + miss, miss[1:] + "\x03" + miss} {
				for _, b := range []*book.Book{nil, book.New(false, nil)} {
					var onions []string
					if b != nil {
						onions = append(onions, forged(b, at, 5, 1)) // forgeries stay counted
					}
					onions = append(onions, l...)
					h := server(at, few, s+some(2, 1000))
					h.Tries, h.Book = tries, b
					refused(t, h, api.ErrCap, 5, onions...)
					if h.Tape.Used() != len(s) || b != nil && b.Forged() != 1 {
						t.Error(at, tries, i, h.Tape.Used(), b.Forged())
					}
				}
			}
		}
	}
}

func TestAnErrorOfTheWrapping(t *testing.T) {
	weak := []api.Key{{}, {1}}
	for at := 1; at <= 2; at++ {
		_, l := users(2, at, 5)
		for bad := range 3 {
			for _, k := range weak {
				p := pubs()
				p[bad] = k
				for _, draws := range []string{"\x00\x00", "\x01\x00", "\x00\x01", "\x02\x03"} {
					h := server(at, few, draws+some(2, 2000))
					h.Pubs = p
					h.Book = book.New(false, nil)
					ones, twos := int(draws[0]+1)/2, int(draws[1]+1)/2
					if bad < at || draws == "\x00\x00" {
						_, on := goes(t, h, 5, l...) // nothing is wrapped for that one
						if len(on) != 2+ones+2*twos {
							t.Error(at, bad, len(on))
						}
						continue
					}
					x := forged(h.Book, at, 5, 9)
					refused(t, h, api.ErrWeak, 5, append(slices.Clone(l), x)...)
					if want := 2 + 52*ones + 88*twos + 32*(3-at); h.Tape.Used() != want || h.Book.Forged() != 1 {
						t.Error(at, bad, h.Tape.Used(), "not", want, h.Book.Forged()) // the first one's secrets, no more
					}
				}
			}
		}
	}
}

func TestAnErrorOfTheShuffle(t *testing.T) {
	for at := 1; at <= 2; at++ {
		covers := some(4, 52+88+3*32*(3-at))
		_, l := users(3, at, 5)
		for n := 6; n >= 2; n-- {
			for tries := 1; tries <= 3; tries++ {
				// six are shuffled: the draws of 6 down to n + 1 come to a number, that of n does not, if n is no power of 2
				s := "\x01\x01" + covers + nought(2*(6-n)) + strings.Repeat("\xff\xff", tries)
				h := server(at, few, s+some(1, 100))
				h.Tries = tries
				if n&(n-1) == 0 {
					goes(t, h, 5, l...)
					continue
				}
				refused(t, h, api.ErrCap, 5, l...)
				if h.Tape.Used() != len(s) {
					t.Error(at, n, tries, h.Tape.Used(), len(s))
				}
			}
		}
	}
}

func TestTheErrorThatIsNamedFirst(t *testing.T) {
	many := slices.Repeat([]string{"x"}, 59)
	for at := 1; at <= 2; at++ {
		weak := pubs()
		weak[2] = api.Key{}
		turn := func(s string) hop.Hop {
			h := server(at, few, s)
			h.Pubs, h.Tries = weak, 1
			return h
		}
		h := turn(strings.Repeat("\xff", 1000))
		h.Tries = 17
		refused(t, h, api.ErrArg, 5, many...)
		refused(t, turn(strings.Repeat("\xff", 1000)), api.ErrMany, 5, many...)
		refused(t, turn(strings.Repeat("\xff", 1000)), api.ErrCap, 5, many[:58]...)
		refused(t, turn("\x00"+strings.Repeat("\xff", 1000)), api.ErrCap, 5, many[:58]...)
		refused(t, turn("\x01\x01"+strings.Repeat("\xff", 1000)), api.ErrWeak, 5, many[:58]...)
		h = turn("\x01\x01" + strings.Repeat("\xff", 1000))
		h.Pubs = pubs()
		refused(t, h, api.ErrCap, 5, many[:58]...) // three are shuffled
	}
}

// P19.2: where each one went, and what comes back

func TestEachOrder(t *testing.T) {
	for at := 1; at <= 2; at++ {
		all, l := users(4, at, 5)
		var inside []string
		for _, o := range l {
			inside = append(inside, peeled(t, at, 5, o))
		}
		orders := map[string]int{}
		for n := range 24 {
			j3, j2, j1 := n%4, n/4%3, n/12
			row := []int{0, 1, 2, 3}
			row[3], row[j3] = row[j3], row[3]
			row[2], row[j2] = row[j2], row[2]
			row[1], row[j1] = row[j1], row[1]
			w, on := goes(t, server(at, still, "\x00\x00"+pairs(j3, j2, j1)), 5, l...)
			for i, m := range row {
				if on[i] != inside[m] {
					t.Error(at, row, i)
				}
			}
			r := repliesTo(at, 4, n)
			back := comesBack(t, w, r...)
			for i, m := range row {
				if got, ok := onion.Unwrap(nil, 5, all[m].Keys[:1], back[m]); !ok || got != r[i] || len(back[m]) != replySizes[at] {
					t.Error(at, row, i, ok)
				}
			}
			orders[fmt.Sprint(row)]++
		}
		if len(orders) != 24 {
			t.Error(len(orders))
		}
	}
}

func TestRepliesThatAreNone(t *testing.T) {
	for at := 1; at <= 2; at++ {
		all, l := users(3, at, 5)
		w, on := goes(t, server(at, few, "\x01\x01"+some(1, 1000)), 5, l...)
		good := repliesTo(at, 6, 1)
		if len(on) != 6 {
			t.Fatal(len(on))
		}
		was := comesBack(t, w, good...)
		no := func(l ...string) {
			t.Helper()
			if got, e := w.Back(l...); e != api.ErrForm || len(got) != 0 {
				t.Error(at, len(l), e, len(got))
			}
		}
		for n := range 70 {
			if n != 6 {
				no(slices.Repeat(good, 12)[:n]...)
			}
		}
		for i := range 6 {
			for _, x := range []string{"", good[i][1:], good[i] + "x", good[i] + good[i], nought(replySizes[at]), nought(onionSizes[at]), nought(onionSizes[at+1]), some(1, 256+len(good[i]))} {
				k := slices.Clone(good)
				k[i] = x
				no(k...)
				k[i], k[(i+1)%6] = good[i][1:], good[(i+1)%6]+"x" // as many bytes in all
				no(k...)
			}
		}
		for _, other := range []int{replySizes[at], replySizes[3] - 16, onionSizes[at+1], 0, 1} {
			k := make([]string, 6)
			for i := range k {
				k[i] = some(i, other)
			}
			no(k...)
		}
		if !slices.Equal(comesBack(t, w, good...), was) {
			t.Error(at, "not the same again")
		}
		for i, u := range all {
			if got, ok := onion.Unwrap(nil, 5, u.Keys[:1], was[i]); !ok || got != good[slices.Index(on, peeled(t, at, 5, l[i]))] {
				t.Error(at, i, ok)
			}
		}
	}
}

func TestRepliesThatAreNoneAreNotSealed(t *testing.T) {
	// what a book has noted opens in the ideal game
	for at := 1; at <= 2; at++ {
		b := book.New(true, tape.New(some(1, 900)))
		u, _ := onion.Wrap(b, tape.New(some(2, 96)), 5, at, pubs(), honest(), request(1, 1))
		h := server(at, still, "")
		h.Book = b
		w, on := goes(t, h, 5, u.Onion)
		r := repliesTo(at, 1, 1)[0]
		box := aead.Seal(b.Key(u.Keys[0]), derive.Nonce(api.ForReply, 5), "", nought(len(r)))
		for _, l := range [][]string{nil, {r, r}, {r + "x"}, {r[1:]}} {
			if _, e := w.Back(l...); e != api.ErrForm {
				t.Error(at, e)
			}
			for n := range 100 {
				box := aead.Seal(b.Key(u.Keys[0]), derive.Nonce(api.ForReply, 5), "", nought(n))
				if _, ok := b.Open(u.Keys[0], derive.Nonce(api.ForReply, 5), box); ok {
					t.Error(at, n, "is noted")
				}
			}
		}
		if back := comesBack(t, w, r); back[0] != box || len(on) != 1 {
			t.Error(at, "another box")
		}
		if got, ok := onion.Unwrap(b, 5, u.Keys[:1], box); !ok || got != r {
			t.Error(at, ok)
		}
	}
}

func TestBackAsOftenAsAsked(t *testing.T) {
	for at := 1; at <= 2; at++ {
		all, l := users(3, at, 5)
		w, on := goes(t, server(at, few, "\x01\x01"+some(1, 1000)), 5, l...)
		for seed := range 5 {
			r := repliesTo(at, len(on), seed)
			for i, told := range comesBack(t, w, r...) {
				if got, ok := onion.Unwrap(nil, 5, all[i].Keys[:1], told); !ok || got != r[slices.Index(on, peeled(t, at, 5, l[i]))] {
					t.Error(at, seed, i, ok)
				}
			}
		}
		alike := slices.Repeat([]string{nought(replySizes[at+1])}, len(on))
		for i, told := range comesBack(t, w, alike...) {
			if got, ok := onion.Unwrap(nil, 5, all[i].Keys[:1], told); !ok || got != alike[0] {
				t.Error(at, i, ok)
			}
		}
	}
}

func TestWorksOfOneHop(t *testing.T) {
	// each one remembers its own batch, round and order
	h := server(1, few, some(3, 40000))
	h.Tries = 16
	var works []*hop.Work
	var on, in [][]string
	var all [][]onion.Wrapped
	for n := range 6 {
		us, l := users(n, 1, uint64(n))
		l = append(l, "x")
		w, o := goes(t, h, uint64(n), l...)
		works, on, in, all = append(works, w), append(on, o), append(in, l), append(all, us)
	}
	for _, n := range []int{3, 0, 5, 1, 4, 2, 5} {
		if works[n].Size() != len(on[n]) {
			t.Error(n, works[n].Size())
		}
		r := repliesTo(1, len(on[n]), n)
		back := comesBack(t, works[n], r...)
		if len(back) != n+1 || back[n] != nought(84) {
			t.Fatal(n, len(back))
		}
		for i, u := range all[n] {
			if got, ok := onion.Unwrap(nil, uint64(n), u.Keys[:1], back[i]); !ok || got != r[slices.Index(on[n], peeled(t, 1, uint64(n), in[n][i]))] {
				t.Error(n, i, ok)
			}
		}
	}
}

func TestOfANilWork(t *testing.T) {
	var w *hop.Work
	ones, twos := w.Covers()
	if w.Size() != 0 || ones != 0 || twos != 0 {
		t.Error(w.Size(), ones, twos)
	}
	for _, l := range [][]string{nil, {}, {""}, {nought(52)}, {nought(68), nought(68)}} {
		if got, e := w.Back(l...); e != api.ErrArg || len(got) != 0 {
			t.Error(len(l), e)
		}
	}
}

// P19.3

// plainLast is Last as the chapter's words have it: each request is held against each other one.
func plainLast(b *book.Book, round uint64, onions []string) []string {
	l := make([]string, len(onions))
	inside, keys := make([]string, len(onions)), make([]api.Key, len(onions))
	for i, o := range onions {
		if slices.Index(onions, o) == i {
			inside[i], keys[i], _ = onion.Peel(b, round, 3, secrets()[2], o)
		}
	}
	for i, s := range inside {
		if s == "" {
			l[i] = nought(52)
			continue
		}
		box, n := nought(36), 0
		for k, o := range inside {
			if k != i && o != "" && o[:16] == s[:16] {
				box, n = o[16:], n+1
			}
		}
		if n != 1 {
			box = nought(36)
		}
		l[i] = onion.Close(b, round, keys[i], box)
	}
	return l
}

func third(b *book.Book) hop.Hop {
	return hop.Hop{At: 3, Secret: secrets()[2], Book: b} // it needs no more
}

func last(t *testing.T, h hop.Hop, round uint64, onions ...string) []string {
	t.Helper()
	l, e := h.Last(round, onions...)
	if e != api.OK || len(l) != len(onions) {
		t.Fatalf("Last of %d: %d, %d", len(onions), e, len(l))
	}
	return l
}

func TestWhoIsTheLastOne(t *testing.T) {
	many := slices.Repeat([]string{"x"}, 65)
	for _, at := range []int{0, 1, 2, 4, -1, -3, 256 + 3, 1<<32 + 3, math.MinInt, math.MinInt + 3, math.MaxInt} {
		b := book.New(false, nil)
		l := []string{forged(b, 1, 5, 1), forged(b, 2, 5, 2), forged(b, 3, 5, 3)}
		for _, k := range [][]string{nil, l, many[:64], many} {
			h := hop.Hop{At: at, Secret: secrets()[2], Pubs: pubs(), Honest: honest(), Table: few.table(), Tape: tape.New(some(1, 100)), Tries: 4, Book: b}
			if got, e := h.Last(5, k...); e != api.ErrArg || len(got) != 0 || h.Tape.Used() != 0 || b.Forged() != 0 {
				t.Error(at, len(k), e, len(got))
			}
		}
	}
}

func TestHowManyMayComeToTheLastOne(t *testing.T) {
	b := book.New(false, nil)
	l := append([]string{forged(b, 3, 5, 3)}, slices.Repeat([]string{"x"}, 99)...)
	for _, n := range []int{65, 66, 100} {
		if got, e := third(b).Last(5, l[:n]...); e != api.ErrMany || len(got) != 0 || b.Forged() != 0 {
			t.Error(n, e, len(got), b.Forged())
		}
	}
	if got := last(t, third(b), 5, l[:64]...); b.Forged() != 1 || got[63] != nought(52) {
		t.Error(b.Forged())
	}
	if got := last(t, third(b), 5); len(got) != 0 {
		t.Error(len(got))
	}
	var all []onion.Wrapped
	l = nil
	for i := range 64 { // 32 pairs: each one's partner is 32 further on
		w := wrapped(3, 5, i, request(i%32, i))
		all, l = append(all, w), append(l, w.Onion)
	}
	for i, told := range last(t, third(nil), 5, l...) {
		if got, ok := onion.Unwrap(nil, 5, all[i].Keys, told); !ok || got != request(0, (i+32)%64)[16:] {
			t.Error(i, ok)
		}
	}
}

func TestLastNeedsNoMore(t *testing.T) {
	a, b := wrapped(3, 5, 1, request(1, 1)), wrapped(3, 5, 2, request(1, 2))
	want := last(t, third(nil), 5, a.Onion, b.Onion)
	for name, h := range lacking(1, some(1, 100)) {
		h.At, h.Secret = 3, secrets()[2]
		if got := last(t, h, 5, a.Onion, b.Onion); !slices.Equal(got, want) || h.Tape.Used() != 0 {
			t.Error(name)
		}
	}
}

func TestLastByHand(t *testing.T) {
	const round = 5
	// letters are names; a - is an onion that does not open; a = one that is alike to the one ahead of it
	for _, x := range []struct {
		row  string
		told []int // whose box; -1: noughts in a layer; -2: noughts
	}{
		{"", nil},
		{"a", []int{-1}},
		{"-", []int{-2}},
		{"aa", []int{1, 0}},
		{"ab", []int{-1, -1}},
		{"a=", []int{-1, -2}},
		{"a=a", []int{2, -2, 0}},
		{"aa=", []int{1, 0, -2}},
		{"aaa", []int{-1, -1, -1}},
		{"aaaa", []int{-1, -1, -1, -1}},
		{"-a-a-", []int{-2, 3, -2, 1, -2}},
		{"abab", []int{2, 3, 0, 1}},
		{"abba", []int{3, 2, 1, 0}},
		{"abcacb-d", []int{3, 5, 4, 0, 2, 1, -2, -1}},
		{"abacbac=b", []int{-1, -1, -1, 6, -1, -1, 3, -2, -1}},
		{"--", []int{-2, -2}},
		{"-=aa", []int{-2, -2, 3, 2}},
	} {
		var all []onion.Wrapped
		var l []string
		for i, c := range []byte(x.row) {
			w := wrapped(3, round, i, request(int(c), i))
			switch c {
			case '-':
				w.Onion = turned(w.Onion, 32+i)
			case '=':
				w = all[i-1]
			}
			all, l = append(all, w), append(l, strings.Clone(w.Onion))
		}
		for i, told := range last(t, third(nil), round, l...) {
			want := nought(52)
			if x.told[i] > -2 {
				box := nought(36)
				if x.told[i] >= 0 {
					box = request(0, x.told[i])[16:]
				}
				want = aead.Seal(all[i].Keys[0], derive.Nonce(api.ForReply, round), "", box)
			}
			if told != want {
				t.Errorf("%s: %d is told another thing", x.row, i)
			}
		}
	}
}

func TestAllShortRowsAtTheLastOne(t *testing.T) {
	// four names' and boxes' onions, two of one name; one that does not open: each of them may come more than once
	kinds := []string{
		wrapped(3, 1, 1, request(1, 1)).Onion,
		wrapped(3, 1, 2, request(1, 2)).Onion,
		wrapped(3, 1, 3, request(1, 3)).Onion,
		wrapped(3, 1, 4, request(2, 4)).Onion,
		turned(wrapped(3, 1, 5, request(1, 5)).Onion, 70),
	}
	for n := range 5 {
		count := 1
		for range n {
			count *= len(kinds)
		}
		for c := range count {
			var l []string
			for range n {
				l = append(l, kinds[c%len(kinds)])
				c /= len(kinds)
			}
			if !slices.Equal(last(t, third(nil), 1, l...), plainLast(nil, 1, l)) {
				t.Fatalf("of %d: another reply", n)
			}
		}
	}
}

func TestLastInBothGames(t *testing.T) {
	for seed := range 30 {
		for _, ideal := range []bool{false, true} {
			r := rand.New(rand.NewPCG(2, uint64(seed)))
			b, c := books(ideal, seed)
			round := r.Uint64()
			var l []string
			var all []onion.Wrapped
			for i := range r.IntN(12) {
				who := []bool{true, true, r.IntN(3) > 0}
				w, _ := onion.Wrap(b, tape.New(some(100*seed+i, 96)), round, 3, pubs(), who, request(r.IntN(5), i))
				onion.Wrap(c, tape.New(some(100*seed+i, 96)), round, 3, pubs(), who, peeled3(b, round, w.Onion))
				o := w.Onion
				switch r.IntN(8) {
				case 0:
					o = turned(o, r.IntN(100))
				case 1:
					if i > 0 {
						o = l[r.IntN(i)]
					}
				case 2:
					o = forged(b, 3, round, 5000+i)
					forged(c, 3, round, 5000+i)
				}
				all, l = append(all, w), append(l, o)
			}
			got := last(t, third(b), round, l...)
			if !slices.Equal(got, plainLast(c, round, l)) || b.Forged() != c.Forged() {
				t.Fatal(seed, ideal, b.Forged(), c.Forged())
			}
			for i, told := range got {
				if l[i] == all[i].Onion && slices.Index(l, l[i]) == i {
					if x, ok := onion.Unwrap(b, round, all[i].Keys, told); !ok || len(x) != 36 {
						t.Error(seed, ideal, i, ok)
					}
				}
			}
		}
	}
}

// peeled3 is what an onion of the third server holds.
func peeled3(b *book.Book, round uint64, s string) string {
	inside, _, _ := onion.Peel(b, round, 3, secrets()[2], s)
	return inside
}

func TestOnionsThatDoNotOpenAtTheLastOne(t *testing.T) {
	a, b := wrapped(3, 5, 1, request(1, 1)), wrapped(3, 5, 2, request(1, 2))
	whole := last(t, third(nil), 5, a.Onion, b.Onion)
	for i, x := range bad(3, 5, a.Onion) {
		if got := last(t, third(nil), 5, x, a.Onion, x, b.Onion, x); !slices.Equal(got, []string{nought(52), whole[0], nought(52), whole[1], nought(52)}) {
			t.Error(i)
		}
	}
}

// P19.4

// TestThereAndBack: users' onions go through all servers and back, whatever the orders and the covers are.
func TestThereAndBack(t *testing.T) {
	for seed := range 40 {
		for _, ideal := range []bool{false, true} {
			r := rand.New(rand.NewPCG(3, uint64(seed)))
			b := book.New(ideal, tape.New(some(seed, 20000)))
			round := uint64(seed)
			var l []string
			var all []onion.Wrapped
			for i := range 6 { // 0 and 3, 1 and 4 meet, the others do not
				id := []int{0, 1, 2, 0, 1, 5}[i]
				w, _ := onion.Wrap(b, tape.New(some(50*seed+i, 96)), round, 1, pubs(), honest(), request(id, i))
				all, l = append(all, w), append(l, w.Onion)
			}
			place := r.IntN(7)
			l = slices.Insert(l, place, []string{"x", l[0], turned(l[2], 100)}[r.IntN(3)])
			if place == 0 {
				l[0] = "x" // the first one of those that are alike counts
			}
			one, two := server(1, few, some(1000+seed, 4000)), server(2, kind{1, 2}, some(2000+seed, 4000))
			one.Book, two.Book, one.Tries, two.Tries = b, b, 16, 16
			v, on := goes(t, one, round, l...)
			w, further := goes(t, two, round, on...)
			back := comesBack(t, v, comesBack(t, w, last(t, third(b), round, further...)...)...)
			if len(back) != 7 || back[place] != nought(84) {
				t.Fatal(seed, ideal, len(back))
			}
			back = slices.Delete(back, place, place+1)
			for i, told := range back {
				want := []string{request(0, 3)[16:], request(0, 4)[16:], nought(36), request(0, 0)[16:], request(0, 1)[16:], nought(36)}[i]
				if got, ok := onion.Unwrap(b, round, all[i].Keys, told); !ok || got != want {
					t.Error(seed, ideal, i, ok)
				}
			}
			if b.Forged() != 0 {
				t.Error(seed, ideal, b.Forged())
			}
		}
	}
}

// Rules that hold everywhere

// spare is a list with bytes behind its end, and whole what it shares with them.
func spare[T any](l []T, more ...T) (list, whole []T) {
	whole = append(slices.Clone(l), more...)
	return whole[:len(l)], whole
}

func TestWhatIsHandedInIsAsItWas(t *testing.T) {
	for at := 1; at <= 2; at++ {
		_, us := users(3, at, 5)
		l, lAll := spare(append(us, "x", us[0]), "behind", "it")
		h := server(at, few, "\x01\x01"+some(1, 1000))
		var pAll []api.Key
		var hAll []bool
		h.Pubs, pAll = spare(h.Pubs, api.Key{7}, api.Key{8})
		h.Honest, hAll = spare(h.Honest, false, true)
		lWas, pWas, hWas := slices.Clone(lAll), slices.Clone(pAll), slices.Clone(hAll)
		w, on := goes(t, h, 5, l...)
		r, rAll := spare(repliesTo(at, len(on), 1), "behind", "it")
		rWas := slices.Clone(rAll)
		comesBack(t, w, r...)
		w.Back(lAll...)
		if !slices.Equal(lAll, lWas) || !slices.Equal(pAll, pWas) || !slices.Equal(hAll, hWas) || !slices.Equal(rAll, rWas) {
			t.Error(at, "changed")
		}
		third(nil).Last(5, l...)
		if !slices.Equal(lAll, lWas) {
			t.Error("changed by Last")
		}
	}
}

func TestWhatIsHandedInIsNotSeenThroughLater(t *testing.T) {
	for at := 1; at <= 2; at++ {
		_, l := users(3, at, 5)
		for _, ideal := range []bool{false, true} {
			b, c := books(ideal, 1)
			s := "\x01\x01" + some(1, 1000)
			h, g := server(at, few, s), server(at, few, s)
			h.Book, g.Book = b, c
			onions := slices.Clone(l)
			w, on := goes(t, h, 5, onions...)
			v, _ := goes(t, g, 5, l...)
			r := repliesTo(at, len(on), 1)
			clear(onions)
			clear(on)
			clear(h.Pubs)
			clear(h.Honest)
			h.At, h.Secret, h.Book, h.Tape, h.Table, h.Tries = 3, api.Key{}, nil, nil, nil, 0
			was := comesBack(t, w, r...)
			if !slices.Equal(was, comesBack(t, v, r...)) {
				t.Error(at, ideal, "seen through")
			}
			if !slices.Equal(w.Pubs, pubs()) || !slices.Equal(w.Honest, honest()) {
				t.Error(at, ideal, "the hop's lists")
			}
			clear(was)
			clear(r)
			if got := comesBack(t, w, repliesTo(at, len(r), 1)...); slices.Contains(got, "") {
				t.Error(at, ideal, "what was told")
			}
		}
	}
}

// apart holds that texts share no memory.
func apart(t *testing.T, what string, texts ...string) {
	t.Helper()
	type span struct{ from, to uintptr }
	var all []span
	for _, s := range texts {
		if s != "" {
			from := uintptr(unsafe.Pointer(unsafe.StringData(s)))
			all = append(all, span{from, from + uintptr(len(s))})
		}
	}
	slices.SortFunc(all, func(a, b span) int { return int(a.from) - int(b.from) })
	for i := 1; i < len(all); i++ {
		if all[i].from < all[i-1].to {
			t.Error(what, "shares memory")
			return
		}
	}
}

func TestWhatIsToldIsNewMemory(t *testing.T) {
	for at := 1; at <= 2; at++ {
		for _, ideal := range []bool{false, true} {
			b := book.New(ideal, tape.New(some(1, 900)))
			var l []string
			for i := range 3 {
				w, _ := onion.Wrap(b, tape.New(some(i, 96)), 5, at, pubs(), honest(), request(i, i))
				l = append(l, w.Onion)
			}
			l = append(l, "a text that is none", strings.Clone(l[0]), "another one")
			h := server(at, few, "\x01\x01"+some(1, 1000))
			h.Book = b
			w, on := goes(t, h, 5, l...)
			r := repliesTo(at, len(on), 1)
			first, second := comesBack(t, w, r...), comesBack(t, w, r...)
			apart(t, "Forward", slices.Concat(l, on, r, first, second)...)
			if cap(first) > 0 && cap(second) > 0 && unsafe.SliceData(first) == unsafe.SliceData(second) {
				t.Error(at, ideal, "two answers are one list")
			}
			g := server(at, few, "\x01\x01"+some(1, 1000))
			g.Book = b
			_, again := goes(t, g, 5, l...)
			apart(t, "two Forwards", slices.Concat(l, on, again)...)
		}
	}
	a, b, c := wrapped(3, 5, 1, request(1, 1)), wrapped(3, 5, 2, request(1, 2)), wrapped(3, 5, 3, request(3, 3))
	l := []string{a.Onion, "no onion at all", b.Onion, strings.Clone(a.Onion), c.Onion, "nor this one"}
	apart(t, "Last", slices.Concat(l, last(t, third(nil), 5, l...), last(t, third(nil), 5, l...))...)
}

func TestAnswersHangOnTheArgumentsAlone(t *testing.T) {
	for at := 1; at <= 2; at++ {
		_, l := users(4, at, 5)
		s := "\x03\x01" + some(1, 1000)
		h := server(at, few, s)
		w, on := goes(t, h, 5, l...)
		r := repliesTo(at, len(on), 1)
		back := comesBack(t, w, r...)
		for n := range 4 {
			other := server(at, few, some(n, 1000)) // what is called between
			other.Forward(uint64(n), l[:n]...)
			third(nil).Last(5, l...)
			w.Back(l...)
			g := server(at, few, s)
			v, again := goes(t, g, 5, l...)
			if !slices.Equal(again, on) || !slices.Equal(comesBack(t, v, r...), back) || !slices.Equal(comesBack(t, w, r...), back) {
				t.Error(at, n)
			}
		}
	}
}

func TestTheHopThatIsHandedInIsTheOneThatIsUsed(t *testing.T) {
	// of one tape and one table many batches are sent on, one behind the other
	for at := 1; at <= 2; at++ {
		s := some(at, 30000)
		h := server(at, few, s)
		h.Tries = 16
		used := 0
		for n := range 10 {
			_, l := users(n, at, uint64(n))
			want := plainForward(h, few, s[used:], uint64(n), l)
			w, on, e := h.Forward(uint64(n), l...)
			used += want.used
			if e != want.e || !slices.Equal(on, want.on) || h.Tape.Used() != used {
				t.Fatal(at, n, e, h.Tape.Used(), used)
			}
			if e == api.OK && w.Tape != h.Tape {
				t.Error(at, n, "another tape")
			}
		}
	}
}

func TestSizesAreThoseOfTheWire(t *testing.T) {
	for at := 1; at <= 3; at++ {
		if wire.OnionSize(at) != onionSizes[at] || wire.ReplySize(at) != replySizes[at] {
			t.Error(at)
		}
	}
}
