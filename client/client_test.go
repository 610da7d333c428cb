package client_test

import (
	"crypto/sha256"
	"fmt"
	"math"
	"math/rand/v2"
	"slices"
	"strings"
	"testing"
	"unsafe"

	"billet/aead"
	"billet/api"
	"billet/book"
	"billet/client"
	"billet/curve"
	"billet/derive"
	"billet/drop"
	"billet/onion"
	"billet/talk"
	"billet/tape"
	"billet/wire"
)

// some is n bytes that look like chance, the same for the same seed.
func some(seed, n int) string {
	var b []byte
	for i := 0; len(b) < n; i++ {
		h := sha256.Sum256(fmt.Append(nil, seed, i))
		b = append(b, h[:]...)
	}
	return string(b[:n])
}

func nought(n int) string {
	return strings.Repeat("\x00", n)
}

// Sizes: of an onion that goes to server 1, of the reply that it gives, of a box.
const size, reply, box = 196, 84, 36

// What a round takes from the tape: its layers' secrets, and ahead of them a name and a key, where nobody is talked to.
const layers, idles = 3 * 32, 16 + 32

// final is the round behind which there is none.
const final = math.MaxUint64

// The servers' keys, and the users'.

func secrets() []api.Key {
	return keys(900, api.Servers)
}

func users() []api.Key {
	return keys(950, api.MaxUsers)
}

func keys(seed, n int) []api.Key {
	var l []api.Key
	for i := range n {
		l = append(l, api.Key([]byte(some(seed+i, 32))))
	}
	return l
}

func public(secrets []api.Key) []api.Key {
	var l []api.Key
	for _, k := range secrets {
		l = append(l, curve.Public(k))
	}
	return l
}

// home is that of one of three users, which lacks nothing; without a book, and nobody is honest.
func home(own int) client.Home {
	return client.Home{Own: own, Secret: users()[own], Servers: public(secrets()), Users: public(users()[:3]),
		HonestServers: make([]bool, 3), HonestUsers: make([]bool, 3), Tape: tape.New(some(100+own, 3000)), Limit: 4}
}

func made(t *testing.T, h client.Home) *client.Client {
	t.Helper()
	c, e := client.New(h)
	if c == nil || e != api.OK {
		t.Fatal("New:", e)
	}
	return c
}

func chosen(t *testing.T, c *client.Client, partner int, text string) {
	t.Helper()
	if e := c.Choose(partner, text); e != api.OK {
		t.Fatalf("Choose of %d, %d bytes: %d", partner, len(text), e)
	}
}

// Frames.

func start(u int, round uint64) api.Frame {
	return api.Frame{From: 1, To: 4 + u, Kind: api.Start, Round: round}
}

func answer(u int, round uint64, data string) api.Frame {
	return api.Frame{From: 1, To: 4 + u, Kind: api.Answer, Round: round, Data: data}
}

func abort(u int, round uint64) api.Frame {
	return api.Frame{From: 1, To: 4 + u, Kind: api.Abort, Round: round}
}

func ask(u int, round uint64, onion string) []api.Frame {
	return []api.Frame{{From: 4 + u, To: 1, Kind: api.Ask, Round: round, Data: onion}}
}

// short is frames as they are told where they are not the ones that should be.
func short(l []api.Frame) string {
	var b strings.Builder
	for _, x := range l {
		fmt.Fprintf(&b, "{%d to %d, kind %d, round %d, %d bytes}", x.From, x.To, x.Kind, x.Round, len(x.Data))
	}
	return b.String()
}

// sends holds what a client told against what it should.
func sends(t *testing.T, what string, got, want []api.Frame) {
	t.Helper()
	if !slices.Equal(got, want) {
		t.Fatalf("%s: %s; want %s", what, short(got), short(want))
	}
}

// stands holds where a client stands against where it should.
func stands(t *testing.T, what string, c *client.Client, round uint64, waiting bool) {
	t.Helper()
	if c.Round() != round || c.Waiting() != waiting {
		t.Fatalf("%s: round %d, waiting %v; want %d, %v", what, c.Round(), c.Waiting(), round, waiting)
	}
}

// asked and ended hold what a client noted last against what it should have, and how much it noted.
func asked(t *testing.T, what string, c *client.Client, n int, want api.Asked) {
	t.Helper()
	l := c.Asked()
	if len(l) != n || l[n-1] != want {
		t.Fatalf("%s: asked %q; want %q as number %d", what, fmt.Sprint(l), fmt.Sprint(want), n)
	}
}

func ended(t *testing.T, what string, c *client.Client, n int, want api.Ended) {
	t.Helper()
	l := c.Ended()
	if len(l) != n || l[n-1] != want {
		t.Fatalf("%s: ended %q; want %q as number %d", what, fmt.Sprint(l), fmt.Sprint(want), n)
	}
}

// counts holds how many rounds are asked and ended.
func counts(t *testing.T, what string, c *client.Client, askedSoFar, endedSoFar int) {
	t.Helper()
	if len(c.Asked()) != askedSoFar || len(c.Ended()) != endedSoFar {
		t.Fatalf("%s: asked %d, ended %d; want %d, %d", what, len(c.Asked()), len(c.Ended()), askedSoFar, endedSoFar)
	}
}

// deaf holds that nothing comes of frames, and that nothing changes.
func deaf(t *testing.T, what string, c *client.Client, frames ...api.Frame) {
	t.Helper()
	round, waiting := c.Round(), c.Waiting()
	a, e := c.Asked(), c.Ended()
	for i, x := range frames {
		sends(t, fmt.Sprint(what, ", frame ", i, " ", short([]api.Frame{x})), c.Hear(x), nil)
		stands(t, fmt.Sprint(what, ", frame ", i, " ", short([]api.Frame{x})), c, round, waiting)
		counts(t, fmt.Sprint(what, ", frame ", i, " ", short([]api.Frame{x})), c, len(a), len(e))
	}
	if !slices.Equal(c.Asked(), a) || !slices.Equal(c.Ended(), e) {
		t.Fatal(what, "asked or ended changed")
	}
}

// idle holds that nothing changes in so many ticks.
func idle(t *testing.T, what string, c *client.Client, ticks int) {
	t.Helper()
	round, waiting := c.Round(), c.Waiting()
	a, e := len(c.Asked()), len(c.Ended())
	for n := range ticks {
		c.Tick()
		stands(t, fmt.Sprint(what, ", tick ", n), c, round, waiting)
		counts(t, fmt.Sprint(what, ", tick ", n), c, a, e)
	}
}

// begins has a round begin, and gives what it asks with.
func begins(t *testing.T, what string, c *client.Client, u int, round uint64) string {
	t.Helper()
	l := c.Hear(start(u, round))
	if len(l) != 1 || len(l[0].Data) != size {
		t.Fatal(what, "at its beginning:", short(l))
	}
	sends(t, what, l, ask(u, round, l[0].Data))
	stands(t, what, c, round, true)
	return l[0].Data
}

// peeled are an onion's layers' keys, and the request that is in it.
func peeled(t *testing.T, b *book.Book, round uint64, s string) ([]api.Key, string) {
	t.Helper()
	var l []api.Key
	for at := 1; at <= 3; at++ {
		next, k, ok := onion.Peel(b, round, at, secrets()[at-1], s)
		if !ok {
			t.Fatal("server", at, "can't peel")
		}
		l, s = append(l, k), next
	}
	return l, s
}

// closed is a box, or something else, as the servers close it.
func closed(b *book.Book, round uint64, keys []api.Key, s string) string {
	for i := len(keys) - 1; i >= 0; i-- {
		s = onion.Close(b, round, keys[i], s)
	}
	return s
}

// pair is what a user has in common with another one.
func pair(t *testing.T, u, partner int) talk.Pair {
	t.Helper()
	p, e := talk.Meet(users()[u], curve.Public(users()[partner]))
	if e != api.OK {
		t.Fatal(e)
	}
	return p
}

// says is the box of what a user says to another one.
func says(t *testing.T, b *book.Book, u, to int, round uint64, text string) string {
	t.Helper()
	r, e := talk.Say(b, pair(t, u, to), false, round, text)
	if e != api.OK {
		t.Fatal(e)
	}
	return r[16:]
}

// The chapter's examples.

func TestExamples(t *testing.T) {
	c := made(t, home(0))
	l := c.Hear(start(0, 1))
	if len(l) != 1 || len(l[0].Data) != 196 {
		t.Fatal(short(l))
	}
	sends(t, "example 1", l, []api.Frame{{From: 4, To: 1, Kind: 2, Round: 1, Data: l[0].Data}})
	sends(t, "example 2", c.Hear(start(0, 1)), nil)
	idle(t, "example 3", c, 3)
	c.Tick()
	stands(t, "example 3", c, 1, false)
	ended(t, "example 3", c, 1, api.Ended{User: 0, Round: 1, How: 2, Partner: -1, At: 4})
}

// P24.1: New.

// lacking are homes that lack something, or have a number out of its bounds, each in one way.
func lacking() map[string]client.Home {
	l := map[string]client.Home{}
	with := func(name string, turn func(h *client.Home)) {
		h := home(1)
		turn(&h)
		l[name] = h
	}
	many := func(n int) ([]api.Key, []bool) { return public(users())[:1:1], make([]bool, n) }
	for _, n := range []int{0, 7, 8, 12, 256, 256 + 3} {
		with(fmt.Sprint("users ", n), func(h *client.Home) {
			one, honest := many(n)
			h.Users, h.HonestUsers = slices.Repeat(one, n), honest
		})
		with(fmt.Sprint("users, own 0, ", n), func(h *client.Home) {
			one, honest := many(n)
			h.Own, h.Users, h.HonestUsers = 0, slices.Repeat(one, n), honest
		})
	}
	with("no users", func(h *client.Home) { h.Own, h.Users, h.HonestUsers = 0, nil, nil })
	for n := 1; n <= 6; n++ {
		for _, own := range []int{n, n + 1, 6, 7, -1, -2, -n, 256, 257, 1 << 32, 1<<32 + 1, math.MinInt, math.MinInt + 1, math.MaxInt} {
			with(fmt.Sprint("own ", own, " of ", n), func(h *client.Home) {
				one, honest := many(n)
				h.Own, h.Users, h.HonestUsers = own, slices.Repeat(one, n), honest
			})
		}
		for _, m := range []int{0, n - 1, n + 1, 2 * n, 6, 7, 256 + n} {
			if m != n {
				with(fmt.Sprint("users ", n, ", honest ones ", m), func(h *client.Home) {
					one, honest := many(m)
					h.Own, h.Users, h.HonestUsers = 0, slices.Repeat(one, n), honest
				})
			}
		}
	}
	for _, n := range []int{0, 1, 2, 4, 6, 256 + 3} {
		with(fmt.Sprint("servers ", n), func(h *client.Home) { h.Servers = slices.Repeat(h.Servers, 100)[:n] })
		with(fmt.Sprint("honest servers ", n), func(h *client.Home) { h.HonestServers = make([]bool, n) })
		with(fmt.Sprint("both ", n), func(h *client.Home) {
			h.Servers, h.HonestServers = slices.Repeat(h.Servers, 100)[:n], make([]bool, n)
		})
	}
	with("no servers", func(h *client.Home) { h.Servers = nil })
	with("no honest servers", func(h *client.Home) { h.HonestServers = nil })
	with("no honest users", func(h *client.Home) { h.HonestUsers = nil })
	with("no tape", func(h *client.Home) { h.Tape = nil })
	for _, n := range []int{0, -1, -4, -1000, 1001, 1002, 2000, 1 << 16, 1<<16 + 4, 1 << 32, 1<<32 + 4, math.MinInt, math.MinInt + 4, math.MaxInt} {
		with(fmt.Sprint("limit ", n), func(h *client.Home) { h.Limit = n })
	}
	with("all", func(h *client.Home) { *h = client.Home{} })
	return l
}

func TestNewOfAHomeThatLacksSomething(t *testing.T) {
	for name, h := range lacking() {
		for _, b := range []*book.Book{nil, book.New(true, tape.New(""))} {
			h.Book = b
			if c, e := client.New(h); c != nil || e != api.ErrArg {
				t.Errorf("%s: a client: %v, %d", name, c != nil, e)
			}
			if h.Tape.Used() != 0 {
				t.Error(name, h.Tape.Used())
			}
		}
	}
}

func TestNewOfEachCountOfUsers(t *testing.T) {
	all := public(users())
	for n := 1; n <= 6; n++ {
		for own := range n {
			h := home(0)
			h.Own, h.Users, h.HonestUsers = own, all[:n], make([]bool, n)
			c := made(t, h)
			what := fmt.Sprint(own, " of ", n)
			stands(t, what, c, 0, false)
			counts(t, what, c, 0, 0)
			idle(t, what, c, 5)
			if h.Tape.Used() != 0 {
				t.Error(what, h.Tape.Used())
			}
			begins(t, what, c, own, 1)
			asked(t, what, c, 1, api.Asked{User: own, Round: 1, Partner: -1}) // nobody is chosen
		}
	}
}

func TestNewOfWhatMayBe(t *testing.T) {
	for name, turn := range map[string]func(h *client.Home){
		"no book":            func(h *client.Home) { h.Book = nil },
		"a real book":        func(h *client.Home) { h.Book = book.New(false, nil) },
		"an ideal book":      func(h *client.Home) { h.Book = book.New(true, nil) },
		"an empty tape":      func(h *client.Home) { h.Tape = tape.New("") },
		"noughts for a key":  func(h *client.Home) { h.Secret = api.Key{} },
		"weak servers":       func(h *client.Home) { h.Servers = make([]api.Key, 3) },
		"weak users":         func(h *client.Home) { h.Users = make([]api.Key, 3) },
		"all are honest":     func(h *client.Home) { h.HonestServers, h.HonestUsers = all(3), all(3) },
		"it is not itself":   func(h *client.Home) { h.Secret = users()[5] },
		"a limit of 1":       func(h *client.Home) { h.Limit = 1 },
		"a limit of 1000":    func(h *client.Home) { h.Limit = 1000 },
		"lists with room":    func(h *client.Home) { h.Users, h.Servers = h.Users[:3:3], append(h.Servers, api.Key{})[:3] },
		"twice the same key": func(h *client.Home) { h.Users[2] = h.Users[1] },
	} {
		h := home(1)
		turn(&h)
		c := made(t, h)
		stands(t, name, c, 0, false)
		counts(t, name, c, 0, 0)
		if h.Tape.Used() != 0 {
			t.Error(name, h.Tape.Used())
		}
	}
}

// all are n that are honest.
func all(n int) []bool {
	return slices.Repeat([]bool{true}, n)
}

func TestOfNil(t *testing.T) {
	var c *client.Client
	for range 2 {
		for _, partner := range []int{0, 1, -1, math.MaxInt} {
			for _, n := range []int{0, 1, 19, 20, 1000} {
				if e := c.Choose(partner, nought(n)); e != api.ErrArg {
					t.Error(partner, n, e)
				}
			}
		}
		c.Tick()
		for _, round := range []uint64{0, 1, 5, final} {
			for _, x := range each(0, round) {
				if l := c.Hear(x); len(l) != 0 {
					t.Error(short([]api.Frame{x}), short(l))
				}
			}
		}
		if c.Round() != 0 || c.Waiting() || len(c.Asked()) != 0 || len(c.Ended()) != 0 {
			t.Error("nil")
		}
	}
}

// P24.1: Choose.

func TestChooseOfEachUserThatThereIsNot(t *testing.T) {
	for own := range 3 {
		c := made(t, home(own))
		round := uint64(0)
		for _, partner := range []int{own, 3, 4, 5, 6, 7, -1, -2, -3, 4 + own, 256, 257, 1 << 32, 1<<32 + 1, math.MinInt, math.MinInt + 1, math.MaxInt} {
			for _, ahead := range []bool{false, true} {
				if ahead { // whom it talked to is forgotten
					chosen(t, c, (own+1)%3, "somebody")
				}
				chosen(t, c, partner, "nobody")
				round++
				what := fmt.Sprint(own, " chose ", partner)
				begins(t, what, c, own, round)
				asked(t, what, c, int(round), api.Asked{User: own, Round: round, Partner: -1})
			}
		}
	}
}

func TestChooseOfEachOtherUser(t *testing.T) {
	for n := 2; n <= 6; n++ {
		for own := range n {
			h := home(0)
			h.Own, h.Secret, h.Users, h.HonestUsers = own, users()[own], public(users()[:n]), make([]bool, n)
			c := made(t, h)
			for partner := range n {
				if partner == own {
					continue
				}
				round := 1 + uint64(partner)
				what := fmt.Sprint(own, " chose ", partner, " of ", n)
				chosen(t, c, partner, what)
				_, r := peeled(t, nil, round, begins(t, what, c, own, round))
				a := c.Asked()
				if a[len(a)-1] != (api.Asked{User: own, Round: round, Partner: partner, Text: what}) {
					t.Error(what, a)
				}
				if s, ok := talk.Hear(nil, pair(t, partner, own), round, r[16:]); !ok || s != what {
					t.Error(what, ok)
				}
			}
		}
	}
}

func TestChooseOfEachLength(t *testing.T) {
	c := made(t, home(0))
	for n := range 20 {
		for i, text := range []string{nought(n), strings.Repeat("\xff", n), some(n, n)} {
			round := uint64(10*n + i + 1)
			chosen(t, c, 1, text)
			_, r := peeled(t, nil, round, begins(t, "", c, 0, round))
			asked(t, "", c, 3*n+i+1, api.Asked{User: 0, Round: round, Partner: 1, Text: text})
			if s, ok := talk.Hear(nil, pair(t, 1, 0), round, r[16:]); !ok || s != text {
				t.Error(n, i, ok)
			}
		}
	}
}

func TestChooseOfATextThatIsTooLong(t *testing.T) {
	for _, n := range []int{20, 21, 36, 255, 256, 256 + 19, 65536, 65536 + 5} {
		c := made(t, home(0))
		bad := func() {
			t.Helper()
			for _, partner := range []int{2, 1, 0, -1, 3, math.MinInt, math.MaxInt} {
				if e := c.Choose(partner, some(1, n)); e != api.ErrLong {
					t.Error(n, partner, e)
				}
			}
		}
		bad()
		begins(t, "nobody is chosen", c, 0, 1)
		asked(t, "nobody is chosen", c, 1, api.Asked{User: 0, Round: 1, Partner: -1})
		chosen(t, c, 1, "stays")
		bad()
		begins(t, "what was chosen stays", c, 0, 2)
		asked(t, "what was chosen stays", c, 2, api.Asked{User: 0, Round: 2, Partner: 1, Text: "stays"})
		bad()
		begins(t, "and stays", c, 0, 3)
		asked(t, "and stays", c, 3, api.Asked{User: 0, Round: 3, Partner: 1, Text: "stays"})
	}
}

func TestChooseTwice(t *testing.T) {
	c := made(t, home(0))
	for i, x := range []struct {
		partners []int
		texts    []string
		want     api.Asked
	}{
		{[]int{1, 2}, []string{"one", "two"}, api.Asked{Round: 1, Partner: 2, Text: "two"}},
		{[]int{2, 1}, []string{"a longer one", ""}, api.Asked{Round: 2, Partner: 1}},
		{[]int{1, 1}, []string{"a", "b"}, api.Asked{Round: 3, Partner: 1, Text: "b"}},
		{[]int{1, 0}, []string{"a", "b"}, api.Asked{Round: 4, Partner: -1}},
		{[]int{0, 2}, []string{"a", "b"}, api.Asked{Round: 5, Partner: 2, Text: "b"}},
		{[]int{1, -7, 2, 1}, []string{"a", "b", "c", "d"}, api.Asked{Round: 6, Partner: 1, Text: "d"}},
		{nil, nil, api.Asked{Round: 7, Partner: 1, Text: "d"}}, // it stays so in each round
		{nil, nil, api.Asked{Round: 8, Partner: 1, Text: "d"}},
	} {
		for j := range x.partners {
			chosen(t, c, x.partners[j], x.texts[j])
		}
		begins(t, "twice", c, 0, uint64(i+1))
		asked(t, "twice", c, i+1, x.want)
	}
}

func TestChooseWhileARoundIsWaitedFor(t *testing.T) {
	// it is the next one's: the round that is waited for is read as it was asked
	c := made(t, home(0))
	chosen(t, c, 1, "to one")
	k, _ := peeled(t, nil, 5, begins(t, "round 5", c, 0, 5))
	chosen(t, c, 2, "to two")
	asked(t, "round 5", c, 1, api.Asked{User: 0, Round: 5, Partner: 1, Text: "to one"})
	stands(t, "round 5", c, 5, true)
	sends(t, "round 5", c.Hear(answer(0, 5, closed(nil, 5, k, says(t, nil, 1, 0, 5, "from one")))), nil)
	ended(t, "round 5", c, 1, api.Ended{User: 0, Round: 5, How: api.Done, Got: true, Partner: 1, Text: "from one"})

	k, _ = peeled(t, nil, 6, begins(t, "round 6", c, 0, 6))
	asked(t, "round 6", c, 2, api.Asked{User: 0, Round: 6, Partner: 2, Text: "to two"})
	chosen(t, c, -1, "")
	c.Hear(answer(0, 6, closed(nil, 6, k, says(t, nil, 2, 0, 6, "from two"))))
	ended(t, "round 6", c, 2, api.Ended{User: 0, Round: 6, How: api.Done, Got: true, Partner: 2, Text: "from two"})

	k, _ = peeled(t, nil, 7, begins(t, "round 7", c, 0, 7))
	chosen(t, c, 2, "again") // it asked for nobody: what comes is no partner's
	c.Hear(answer(0, 7, closed(nil, 7, k, says(t, nil, 2, 0, 7, "from two"))))
	asked(t, "round 7", c, 3, api.Asked{User: 0, Round: 7, Partner: -1})
	ended(t, "round 7", c, 3, api.Ended{User: 0, Round: 7, How: api.Done, Partner: -1})

	begins(t, "round 8", c, 0, 8)
	chosen(t, c, 1, "later")
	idle(t, "round 8", c, 3)
	c.Tick()
	ended(t, "round 8", c, 4, api.Ended{User: 0, Round: 8, How: api.Aborted, Partner: 2, At: 4})
	begins(t, "round 9", c, 0, 9)
	chosen(t, c, 2, "later")
	c.Hear(abort(0, 9))
	ended(t, "round 9", c, 5, api.Ended{User: 0, Round: 9, How: api.Aborted, Partner: 1, At: 4})
	begins(t, "round 10", c, 0, 10)
	chosen(t, c, 0, "")
	begins(t, "round 11", c, 0, 11)
	ended(t, "round 10", c, 6, api.Ended{User: 0, Round: 10, How: api.Aborted, Partner: 2, At: 4})
	asked(t, "round 11", c, 7, api.Asked{User: 0, Round: 11, Partner: -1})
}

// P24.2: frames, and Start.

// each is frames of each kind between any addresses, with each kind of data, in a round; user u's own are among them.
func each(u int, round uint64) []api.Frame {
	var l []api.Frame
	for from := range 11 {
		for to := range 11 {
			for kind := range 8 {
				l = append(l, api.Frame{From: from, To: to, Kind: kind, Round: round, Data: some(1, reply)})
			}
		}
	}
	for kind := range 8 {
		for _, s := range []string{"", nought(box), nought(reply), nought(size), some(2, 52), some(3, 68)} {
			l = append(l, api.Frame{From: 1, To: 4 + u, Kind: kind, Round: round, Data: s})
		}
	}
	return l
}

// isFor tells if a frame is one from server 1 to a user.
func isFor(u int, x api.Frame) bool {
	return x.From == 1 && x.To == 4+u
}

func TestEachFrame(t *testing.T) {
	for own := range 3 {
		h := home(own)
		c := made(t, h)
		deaf(t, "round 0", c, each(own, 0)...)
		for _, x := range each(own, 1) { // a Start alone counts
			if !isFor(own, x) || x.Kind != api.Start {
				deaf(t, "round 0", c, x)
			}
		}
		if h.Tape.Used() != 0 {
			t.Error(h.Tape.Used())
		}
		begins(t, "round 7", c, own, 7)
		used := h.Tape.Used()
		for _, x := range each(own, 7) { // an Abort, too; no Answer is one that opens
			if !isFor(own, x) || x.Kind != api.Abort {
				deaf(t, "round 7", c, x)
			}
		}
		for _, x := range each(own, 8) {
			if !isFor(own, x) || x.Kind != api.Start {
				deaf(t, "round 7", c, x)
			}
		}
		deaf(t, "round 7", c, slices.Concat(each(own, 0), each(own, 1), each(own, 6))...)
		idle(t, "round 7", c, 3) // nor is the end put off
		deaf(t, "round 7", c, each(own, 6)...)
		c.Tick()
		stands(t, "over", c, 7, false)
		counts(t, "over", c, 1, 1)
		deaf(t, "over", c, slices.Concat(each(own, 0), each(own, 1), each(own, 6), each(own, 7))...)
		if h.Tape.Used() != used {
			t.Error(h.Tape.Used(), used)
		}
	}
}

func TestStartsThatAreNone(t *testing.T) {
	for own := range 3 {
		var no []api.Frame
		with := func(turn func(x *api.Frame)) {
			x := start(own, 6)
			turn(&x)
			no = append(no, x)
		}
		for _, from := range []int{0, 2, 3, 4, 4 + own, -1, 256 + 1, 1<<32 + 1, math.MinInt + 1, math.MaxInt} {
			with(func(x *api.Frame) { x.From = from })
		}
		for _, to := range []int{0, 1, 2, 3, own, 4 + (own+1)%3, 4 + (own+2)%3, 7, 8, 9, 10, -4 - own, 256 + 4 + own, 1<<32 + 4 + own, math.MinInt + 4 + own, math.MaxInt} {
			if to != 4+own {
				with(func(x *api.Frame) { x.To = to })
			}
		}
		for _, kind := range []int{0, 2, 3, 4, 5, 6, 7, -1, 256 + 1, 1<<32 + 1, math.MinInt + 1, math.MaxInt} {
			with(func(x *api.Frame) { x.Kind = kind })
		}
		with(func(x *api.Frame) { x.From, x.To = x.To, x.From })
		h := home(own)
		c := made(t, h)
		deaf(t, "round 0", c, no...)
		begins(t, "round 5", c, own, 5)
		used := h.Tape.Used()
		deaf(t, "it waits", c, no...)
		c.Hear(abort(own, 5))
		deaf(t, "it rests", c, no...)
		if h.Tape.Used() != used {
			t.Error(h.Tape.Used(), used)
		}
		begins(t, "round 6", c, own, 6)
	}
}

func TestStartsByTheirRounds(t *testing.T) {
	// above its own alone, whether it waits or not; how far above does not count
	for _, own := range []uint64{0, 1, 2, 5, 255, 256, 1<<32 - 1, 1 << 32, 1<<63 - 1, 1 << 63, final - 1, final} {
		for _, it := range []uint64{0, 1, 4, 5, 6, 256, 257, 1 << 32, 1<<32 + 1, 1<<63 - 1, 1 << 63, 1<<63 + 1, final - 1, final} {
			for _, rests := range []bool{true, false} {
				if own == 0 && !rests {
					continue
				}
				what := fmt.Sprintf("%d behind %d, it rests: %v", it, own, rests)
				c := made(t, home(1))
				n, over := 0, 0
				if own > 0 {
					begins(t, what, c, 1, own)
					n++
					idle(t, what, c, 3)
					if rests {
						sends(t, what, c.Hear(abort(1, own)), nil)
						over++
					}
					stands(t, what, c, own, !rests)
				}
				if it <= own {
					deaf(t, what, c, start(1, it), start(1, 0))
					if !rests { // the wait is as it was
						c.Tick()
						ended(t, what, c, 1, api.Ended{User: 1, Round: own, How: api.Aborted, Partner: -1, At: 4})
					}
					continue
				}
				begins(t, what, c, 1, it)
				asked(t, what, c, n+1, api.Asked{User: 1, Round: it, Partner: -1})
				if !rests { // that one is over first
					ended(t, what, c, 1, api.Ended{User: 1, Round: own, How: api.Aborted, Partner: -1, At: 3})
					over++
				}
				counts(t, what, c, n+1, over)
				deaf(t, what, c, start(1, it), start(1, own), abort(1, own))
				idle(t, what, c, 3) // the wait is a whole one
				c.Tick()
				stands(t, what, c, it, false)
				deaf(t, what, c, start(1, it), start(1, own))
			}
		}
	}
}

func TestAStartsDataDoesNotCount(t *testing.T) {
	for i, s := range []string{"", "x", nought(reply), some(1, size), some(1, 20000)} {
		c := made(t, home(2))
		x := start(2, 3)
		want := c.Hear(x)
		other := made(t, home(2))
		x.Data = s
		sends(t, fmt.Sprint(i), other.Hear(x), want)
		stands(t, fmt.Sprint(i), other, 3, true)
	}
}

func TestTheRequestWithAPartner(t *testing.T) {
	for own := range 3 {
		for partner := range 3 {
			if partner == own {
				continue
			}
			h := home(own)
			c := made(t, h)
			for i, round := range []uint64{1, 2, 300, 1 << 40, final} {
				text := some(i, 4*i)
				chosen(t, c, partner, text)
				used := h.Tape.Used()
				s := begins(t, "with a partner", c, own, round)
				asked(t, "with a partner", c, i+1, api.Asked{User: own, Round: round, Partner: partner, Text: text})
				if h.Tape.Used()-used != layers {
					t.Error(h.Tape.Used()-used, "bytes were taken")
				}
				_, r := peeled(t, nil, round, s)
				id, b, ok := wire.Parts(r)
				p := pair(t, partner, own)
				if !ok || id != talk.Name(p.Root, round) {
					t.Error("its name", ok)
				}
				if said, ok := talk.Hear(nil, p, round, b); !ok || said != text {
					t.Error("its box", ok)
				}
				body := string([]byte{byte(len(text))}) + text + nought(19-len(text))
				if b != aead.Seal(p.In, derive.Nonce(api.ForTalk, round), "", body) {
					t.Error("its box")
				}
				// the layers are those that the tape tells
				w, e := onion.Wrap(nil, tape.New(some(100+own, 3000)[used:]), round, 1, public(secrets()), make([]bool, 3), r)
				if e != api.OK || w.Onion != s {
					t.Error("its layers", e)
				}
			}
		}
	}
}

func TestTheRequestWithoutAPartner(t *testing.T) {
	for own := range 3 {
		for _, s := range []string{some(100+own, 3000), "", some(9, 47), some(9, 49)} { // behind a tape's end there are noughts
			h := home(own)
			h.Tape = tape.New(s)
			c := made(t, h)
			for i, round := range []uint64{1, 2, 300, 1 << 40, final} {
				used := h.Tape.Used()
				o := begins(t, "without a partner", c, own, round)
				asked(t, "without a partner", c, i+1, api.Asked{User: own, Round: round, Partner: -1})
				if h.Tape.Used()-used != idles+layers {
					t.Error(h.Tape.Used()-used, "bytes were taken")
				}
				_, r := peeled(t, nil, round, o)
				rest := (s + nought(3000))[used:]
				key := api.Key([]byte(rest[16:48]))
				if r != rest[:16]+aead.Seal(key, derive.Nonce(api.ForTalk, round), "", nought(20)) {
					t.Error("its request")
				}
				w, e := onion.Wrap(nil, tape.New(rest[48:]), round, 1, public(secrets()), make([]bool, 3), r)
				if e != api.OK || w.Onion != o {
					t.Error("its layers", e)
				}
			}
		}
	}
}

// weak are public keys that come to noughts with any secret.
func weak() map[string]api.Key {
	less := func(n byte) api.Key { // 2^255 less a small number
		k := api.Key([]byte(strings.Repeat("\xff", 32)))
		k[0] -= n - 1
		k[31] = 0x7f
		return k
	}
	l := map[string]api.Key{"0": {}, "1": {1}, "p - 1": less(20), "p": less(19), "p + 1": less(18)}
	high := api.Key{}
	high[31] = 0x80
	l["2^255"] = high
	l["of the order 8"] = api.Key{0xe0, 0xeb, 0x7a, 0x7c, 0x3b, 0x41, 0xb8, 0xae, 0x16, 0x56, 0xe3, 0xfa, 0xf1, 0x9f, 0xc4, 0x6a,
		0xda, 0x09, 0x8d, 0xeb, 0x9c, 0x32, 0xb1, 0xfd, 0x86, 0x62, 0x05, 0x16, 0x5f, 0x49, 0xb8, 0x00}
	return l
}

func TestAPartnerWithAWeakKey(t *testing.T) {
	for name, k := range weak() {
		h := home(0)
		h.Users[1] = k
		h.HonestUsers = all(3)
		h.Book = book.New(false, nil)
		c := made(t, h)
		chosen(t, c, 1, "unsaid")
		kk, r := peeled(t, nil, 1, begins(t, name, c, 0, 1))
		asked(t, name, c, 1, api.Asked{User: 0, Round: 1, Partner: -1})
		if r != talk.Idle(tape.New(some(100, 48)), 1) || h.Tape.Used() != idles+layers {
			t.Error(name, h.Tape.Used())
		}
		if h.Book.Shared(api.Key{}) || h.Book.Shared(k) {
			t.Error(name, "is shared")
		}
		c.Hear(answer(0, 1, closed(nil, 1, kk, says(t, nil, 1, 0, 1, "text"))))
		ended(t, name, c, 1, api.Ended{User: 0, Round: 1, How: api.Done, Partner: -1})
		// the next one's is not
		chosen(t, c, 2, "said")
		begins(t, name, c, 0, 2)
		asked(t, name, c, 2, api.Asked{User: 0, Round: 2, Partner: 2, Text: "said"})
		// and behind a partner there is none again
		chosen(t, c, 1, "unsaid")
		kk, _ = peeled(t, nil, 3, begins(t, name, c, 0, 3))
		asked(t, name, c, 3, api.Asked{User: 0, Round: 3, Partner: -1})
		c.Hear(answer(0, 3, closed(nil, 3, kk, says(t, nil, 2, 0, 3, "text"))))
		ended(t, name, c, 3, api.Ended{User: 0, Round: 3, How: api.Done, Partner: -1})
	}
	// its own public key, or one that is nobody's choice, may be weak
	h := home(0)
	h.Users[0], h.Users[2] = api.Key{}, api.Key{1}
	c := made(t, h)
	chosen(t, c, 1, "said")
	begins(t, "others", c, 0, 1)
	asked(t, "others", c, 1, api.Asked{User: 0, Round: 1, Partner: 1, Text: "said"})
}

func TestWhatIsSharedWithWhomIsHonest(t *testing.T) {
	for n := range 64 {
		if n%2 == 1 && n/8%3 > 0 { // about half of them, for the time that they take
			continue
		}
		for _, ideal := range []bool{false, true} {
			h := home(0)
			h.HonestUsers = []bool{n&1 > 0, n&2 > 0, n&4 > 0}
			h.HonestServers = []bool{n&8 > 0, n&16 > 0, n&32 > 0}
			h.Book = book.New(ideal, tape.New(some(77, 3000)))
			c := made(t, h)
			what := fmt.Sprint(h.HonestUsers, h.HonestServers, ideal)
			chosen(t, c, 1, "text")
			s := begins(t, what, c, 0, 9)

			// the same, step by step
			twin := book.New(ideal, tape.New(some(77, 3000)))
			p := pair(t, 0, 1)
			r, e := talk.Say(twin, p, h.HonestUsers[1], 9, "text")
			if e != api.OK {
				t.Fatal(e)
			}
			w, e := onion.Wrap(twin, tape.New(some(100, 3000)), 9, 1, public(secrets()), h.HonestServers, r)
			if e != api.OK || w.Onion != s {
				t.Error(what, e)
			}
			if h.Book.Shared(p.Out) != h.HonestUsers[1] || h.Book.Shared(p.In) != h.HonestUsers[1] {
				t.Error(what, "talk is shared")
			}
			for i, k := range w.Keys {
				if h.Book.Shared(k) != h.HonestServers[i] {
					t.Error(what, "layer is shared", i)
				}
			}
			name := talk.Name(p.Root, 9)
			if (h.Book.ID(name) != name) != (ideal && h.HonestUsers[1]) {
				t.Error(what, "name is shared")
			}
			if h.Book.ID(name) != twin.ID(name) || h.Book.Key(p.Out) != twin.Key(p.Out) || h.Book.Key(p.In) != twin.Key(p.In) {
				t.Error(what, "another fresh one")
			}
		}
	}
}

func TestWithoutAPartnerNothingIsSharedButLayers(t *testing.T) {
	for _, ideal := range []bool{false, true} {
		taken := tape.New(some(77, 3000))
		h := home(0)
		h.HonestServers, h.HonestUsers = all(3), all(3)
		h.Book = book.New(ideal, taken)
		c := made(t, h)
		begins(t, "nobody", c, 0, 1)
		want := 0
		if ideal {
			want = layers
		}
		if taken.Used() != want {
			t.Error(ideal, taken.Used())
		}
		for u := 1; u < 3; u++ {
			if p := pair(t, 0, u); h.Book.Shared(p.Out) || h.Book.Shared(p.In) {
				t.Error(ideal, u)
			}
		}
	}
}

func TestAnErrorOfWrap(t *testing.T) {
	for name, k := range weak() {
		for at := range 3 {
			h := home(2)
			h.Servers[at] = k
			c := made(t, h)
			idle(t, name, c, 2)
			chosen(t, c, 1, "text")
			sends(t, name, c.Hear(start(2, 5)), nil)
			stands(t, name, c, 5, false) // the round is its own
			asked(t, name, c, 1, api.Asked{User: 2, Round: 5, Partner: 1, Text: "text"})
			ended(t, name, c, 1, api.Ended{User: 2, Round: 5, How: api.Aborted, Partner: 1, At: 2})
			if h.Tape.Used() != layers {
				t.Error(name, h.Tape.Used())
			}
			deaf(t, name, c, start(2, 5), start(2, 4), abort(2, 5), answer(2, 5, some(1, reply)), answer(2, 5, some(1, box)))
			idle(t, name, c, 9)
			chosen(t, c, 2, "text")
			sends(t, name, c.Hear(start(2, 6)), nil)
			stands(t, name, c, 6, false)
			asked(t, name, c, 2, api.Asked{User: 2, Round: 6, Partner: -1})
			ended(t, name, c, 2, api.Ended{User: 2, Round: 6, How: api.Aborted, Partner: -1, At: 11})
			if h.Tape.Used() != layers+idles+layers {
				t.Error(name, h.Tape.Used())
			}
		}
	}
}

// P24.3: Answer.

func TestAnswersByWhatTheyHold(t *testing.T) {
	c := made(t, home(0))
	mine := pair(t, 0, 1)
	bodies := func(body string) func(round uint64) string {
		return func(round uint64) string {
			return aead.Seal(mine.In, derive.Nonce(api.ForTalk, round), "", body)
		}
	}
	round := uint64(0)
	for _, x := range []struct {
		name string
		held func(round uint64) string
		got  bool
		text string
	}{
		{"the partner's", func(r uint64) string { return says(t, nil, 1, 0, r, "hello") }, true, "hello"},
		{"the partner's, empty", func(r uint64) string { return says(t, nil, 1, 0, r, "") }, true, ""},
		{"the partner's, as long as may be", func(r uint64) string { return says(t, nil, 1, 0, r, some(1, 19)) }, true, some(1, 19)},
		{"the partner's, noughts", func(r uint64) string { return says(t, nil, 1, 0, r, nought(3)) }, true, nought(3)},
		{"noughts", func(uint64) string { return nought(box) }, false, ""},
		{"chance", func(r uint64) string { return some(int(r), box) }, false, ""},
		{"another user's", func(r uint64) string { return says(t, nil, 2, 0, r, "hello") }, false, ""},
		{"the partner's, to another one", func(r uint64) string { return says(t, nil, 1, 2, r, "hello") }, false, ""},
		{"its own", func(r uint64) string { return says(t, nil, 0, 1, r, "hello") }, false, ""},
		{"the partner's of a round ago", func(r uint64) string { return says(t, nil, 1, 0, r-1, "hello") }, false, ""},
		{"the partner's of the next round", func(r uint64) string { return says(t, nil, 1, 0, r+1, "hello") }, false, ""},
		{"the partner's, turned", func(r uint64) string {
			b := []byte(says(t, nil, 1, 0, r, "hello"))
			b[35] ^= 1
			return string(b)
		}, false, ""},
		{"a body", bodies("\x02ab" + nought(17)), true, "ab"},
		{"a body that is too long", bodies("\x14" + some(1, 19)), false, ""},
		{"a body with more behind its text", bodies("\x02abc" + nought(16)), false, ""},
		{"a body of 255", bodies("\xff" + nought(19)), false, ""},
	} {
		round++
		chosen(t, c, 1, "text")
		k, _ := peeled(t, nil, round, begins(t, x.name, c, 0, round))
		idle(t, x.name, c, 1)
		good := answer(0, round, closed(nil, round, k, x.held(round)))
		sends(t, x.name, c.Hear(good), nil)
		stands(t, x.name, c, round, false)
		ended(t, x.name, c, int(round), api.Ended{User: 0, Round: round, How: api.Done, Got: x.got, Partner: 1, Text: x.text, At: int(round)})
		deaf(t, x.name+", twice", c, good, abort(0, round))
	}
	counts(t, "all", c, int(round), int(round))
	idle(t, "all", c, 9)
}

func TestAnswersWithoutAPartner(t *testing.T) {
	c := made(t, home(0))
	round := uint64(0)
	for _, held := range []func(round uint64) string{
		func(r uint64) string { return says(t, nil, 1, 0, r, "hello") },
		func(r uint64) string { return says(t, nil, 2, 0, r, "hello") },
		func(uint64) string { return nought(box) },
		func(r uint64) string { // as of a pair of noughts
			return aead.Seal(api.Key{}, derive.Nonce(api.ForTalk, r), "", "\x02ab"+nought(17))
		},
	} {
		for _, ahead := range []int{-1, 1} { // whom it talked to in a round ahead does not count
			round++
			chosen(t, c, ahead, "text")
			begins(t, "ahead", c, 0, round)
			chosen(t, c, 0, "text")
			round++
			k, _ := peeled(t, nil, round, begins(t, "nobody", c, 0, round))
			sends(t, "nobody", c.Hear(answer(0, round, closed(nil, round, k, held(round)))), nil)
			ended(t, "nobody", c, int(round), api.Ended{User: 0, Round: round, How: api.Done, Partner: -1})
			stands(t, "nobody", c, round, false)
		}
	}
}

// answers are a client that waits for round 5, an Answer that opens, and the keys that it is closed by.
func answers(t *testing.T, own int, b *book.Book) (*client.Client, api.Frame, []api.Key) {
	t.Helper()
	h := home(own)
	h.Book, h.HonestServers, h.HonestUsers = b, all(3), all(3)
	c := made(t, h)
	partner := (own + 1) % 3
	chosen(t, c, partner, "text")
	k, _ := peeled(t, b, 5, begins(t, "round 5", c, own, 5))
	return c, answer(own, 5, closed(b, 5, k, says(t, b, partner, own, 5, "hello"))), k
}

func TestAnswersThatAreNone(t *testing.T) {
	for own := range 3 {
		c, good, k := answers(t, own, nil)
		var no []api.Frame
		with := func(turn func(x *api.Frame)) {
			x := good
			turn(&x)
			no = append(no, x)
		}
		for i := range len(good.Data) { // each byte turned
			with(func(x *api.Frame) {
				b := []byte(x.Data)
				b[i] ^= 1 << (i % 8)
				x.Data = string(b)
			})
		}
		for _, n := range []int{0, 1, 20, 35, 37, 52, 100, 1000} { // of another size, and closed by the right keys
			with(func(x *api.Frame) { x.Data = closed(nil, 5, k, some(1, n)) })
		}
		for n := 1; n < 4; n++ { // not by all keys, but of the right size
			with(func(x *api.Frame) { x.Data = closed(nil, 5, k[n:], some(1, box+16*n)) })
			with(func(x *api.Frame) { x.Data = closed(nil, 5, k[:3-n], some(1, box+16*n)) })
		}
		for _, row := range [][]api.Key{{k[2], k[1], k[0]}, {k[0], k[2], k[1]}, {k[1], k[0], k[2]}, {k[1], k[2], k[0]}, {k[0], k[0], k[0]}} {
			with(func(x *api.Frame) { x.Data = closed(nil, 5, row, some(1, box)) })
		}
		for _, r := range []uint64{0, 4, 6, final} { // closed in another round
			with(func(x *api.Frame) { x.Data = closed(nil, r, k, some(1, box)) })
		}
		for _, s := range []string{"", "x", nought(reply), some(1, reply), good.Data[1:], good.Data[:reply-1], good.Data + "\x00", "\x00" + good.Data, good.Data + good.Data} {
			with(func(x *api.Frame) { x.Data = s })
		}
		for _, from := range []int{0, 2, 3, 4, 4 + own, -1, 256 + 1, 1<<32 + 1, math.MinInt + 1, math.MaxInt} {
			with(func(x *api.Frame) { x.From = from })
		}
		for _, to := range []int{0, 1, 2, 3, own, 4 + (own+1)%3, 4 + (own+2)%3, 7, 256 + 4 + own, 1<<32 + 4 + own, math.MinInt + 4 + own, math.MaxInt} {
			if to != 4+own {
				with(func(x *api.Frame) { x.To = to })
			}
		}
		for _, kind := range []int{0, 1, 2, 3, 4, 7, -1, 256 + 5, 1<<32 + 5, math.MinInt + 5, math.MaxInt} {
			with(func(x *api.Frame) { x.Kind = kind })
		}
		for _, r := range []uint64{0, 1, 4, 6, 256 + 5, 1<<32 + 5, final} {
			with(func(x *api.Frame) { x.Round = r })
		}
		deaf(t, "it waits", c, no...)
		idle(t, "it waits", c, 3)
		deaf(t, "it waits", c, no...)
		sends(t, "the good one", c.Hear(good), nil)
		want := api.Ended{User: own, Round: 5, How: api.Done, Got: true, Partner: (own + 1) % 3, Text: "hello", At: 3}
		ended(t, "the good one", c, 1, want)
		stands(t, "the good one", c, 5, false)
		deaf(t, "it rests", c, append(no, good)...)
		idle(t, "it rests", c, 9)
		ended(t, "it rests", c, 1, want)
	}
}

func TestAnswersThatComeTooLate(t *testing.T) {
	c, good, _ := answers(t, 0, nil)
	c.Hear(abort(0, 5))
	deaf(t, "aborted", c, good)
	begins(t, "round 6", c, 0, 6)
	deaf(t, "of the round ahead", c, good)
	good.Round = 6
	deaf(t, "of the round ahead", c, good)

	c, good, _ = answers(t, 0, nil)
	for range 4 {
		c.Tick()
	}
	deaf(t, "over", c, good)
	ended(t, "over", c, 1, api.Ended{User: 0, Round: 5, How: api.Aborted, Partner: 1, At: 4})
	begins(t, "a later round", c, 0, 9)
	deaf(t, "a later round", c, good, abort(0, 5))

	c, good, _ = answers(t, 0, nil)
	begins(t, "a later round", c, 0, 6)
	deaf(t, "a later round", c, good, abort(0, 5))
	ended(t, "a later round", c, 1, api.Ended{User: 0, Round: 5, How: api.Aborted, Partner: 1})
}

// forged is a client of the real game that waits for round 5, all are honest, and an Answer that opens while nobody
// noted its boxes: of each box that is opened the book counts one.
func forged(t *testing.T) (*client.Client, *book.Book, api.Frame, []api.Key) {
	t.Helper()
	b := book.New(false, nil)
	c, good, k := answers(t, 0, b)
	good.Data = closed(nil, 5, k, says(t, nil, 1, 0, 5, "forged"))
	return c, b, good, k
}

func TestForgeriesAreMetWhereAnAnswerIsRead(t *testing.T) {
	c, b, good, k := forged(t)
	for _, turn := range []func(x *api.Frame){
		func(x *api.Frame) { x.Round = 4 },
		func(x *api.Frame) { x.Round = 6 },
		func(x *api.Frame) { x.From = 2 },
		func(x *api.Frame) { x.To = 5 },
		func(x *api.Frame) { x.Kind = api.Replies },
		func(x *api.Frame) { x.Kind = api.Start },
		func(x *api.Frame) { x.Data = "x" + x.Data[1:] },
		func(x *api.Frame) { x.Data = x.Data[1:] },
		func(x *api.Frame) { x.Data = onion.Close(nil, 5, k[0], some(1, 67)) }, // another size
		func(x *api.Frame) { x.Data = onion.Close(nil, 5, k[0], some(1, 69)) },
		func(x *api.Frame) { x.Data = closed(nil, 5, k, some(1, 35)) },
		func(x *api.Frame) { x.Data = closed(nil, 5, k, some(1, 37)) },
	} {
		x := good
		turn(&x)
		deaf(t, "none", c, x)
	}
	if b.Forged() != 0 {
		t.Error(b.Forged())
	}
	x := good
	x.Data = onion.Close(nil, 5, k[0], some(1, 68)) // its second layer does not open
	deaf(t, "none", c, x)
	if b.Forged() != 1 {
		t.Error(b.Forged())
	}
	sends(t, "good", c.Hear(good), nil)
	ended(t, "good", c, 1, api.Ended{User: 0, Round: 5, How: api.Done, Got: true, Partner: 1, Text: "forged"})
	if b.Forged() != 5 { // three layers more, and what is said
		t.Error(b.Forged())
	}
	deaf(t, "once more", c, good)
	if b.Forged() != 5 {
		t.Error(b.Forged())
	}

	for name, end := range map[string]func(c *client.Client){
		"aborted": func(c *client.Client) { c.Hear(abort(0, 5)) },
		"over": func(c *client.Client) {
			for range 4 {
				c.Tick()
			}
		},
		"a later round": func(c *client.Client) { c.Hear(start(0, 6)) },
	} {
		c, b, good, _ := forged(t)
		end(c)
		deaf(t, name, c, good)
		if b.Forged() != 0 {
			t.Error(name, b.Forged())
		}
	}
}

func TestInTheIdealGameForgeriesDoNotOpen(t *testing.T) {
	for _, own := range []int{0, 1, 2} {
		b := book.New(true, tape.New(some(5, 3000)))
		c, good, k := answers(t, own, b)
		partner := (own + 1) % 3
		deaf(t, "no layer is noted", c, answer(own, 5, closed(nil, 5, k, says(t, b, partner, own, 5, "forged"))))
		// layers under the fresh keys that nobody closed
		var fresh []api.Key
		for _, key := range k {
			fresh = append(fresh, b.Key(key))
		}
		deaf(t, "no layer is noted", c, answer(own, 5, closed(nil, 5, fresh, nought(box))))
		// what is said is not noted
		sends(t, "forged", c.Hear(answer(own, 5, closed(b, 5, k, says(t, nil, partner, own, 5, "forged")))), nil)
		ended(t, "forged", c, 1, api.Ended{User: own, Round: 5, How: api.Done, Partner: partner})
		deaf(t, "good", c, good)

		b = book.New(true, tape.New(some(6, 3000)))
		c, good, _ = answers(t, own, b)
		sends(t, "good", c.Hear(good), nil)
		ended(t, "good", c, 1, api.Ended{User: own, Round: 5, How: api.Done, Got: true, Partner: partner, Text: "hello"})
		if b.Forged() != 0 {
			t.Error(b.Forged())
		}
	}
}

// P24.3: Abort, and ticks.

func TestAborts(t *testing.T) {
	for own := range 3 {
		var no []api.Frame
		with := func(turn func(x *api.Frame)) {
			x := abort(own, 5)
			turn(&x)
			no = append(no, x)
		}
		for _, from := range []int{0, 2, 3, 4, 4 + own, -1, 256 + 1, 1<<32 + 1, math.MinInt + 1, math.MaxInt} {
			with(func(x *api.Frame) { x.From = from })
		}
		for _, to := range []int{0, 1, 2, 3, own, 4 + (own+1)%3, 4 + (own+2)%3, 7, 256 + 4 + own, 1<<32 + 4 + own, math.MinInt + 4 + own, math.MaxInt} {
			if to != 4+own {
				with(func(x *api.Frame) { x.To = to })
			}
		}
		for _, kind := range []int{0, 1, 2, 3, 4, 5, 7, -1, 256 + 6, 1<<32 + 6, math.MinInt + 6, math.MaxInt} {
			with(func(x *api.Frame) { x.Kind = kind })
		}
		for _, r := range []uint64{0, 1, 4, 6, 256 + 5, 1<<32 + 5, final} {
			with(func(x *api.Frame) { x.Round = r })
		}
		rests := made(t, home(own))
		deaf(t, "it rests, round 0", rests, append(slices.DeleteFunc(slices.Clone(no), func(x api.Frame) bool { return x.Kind == api.Start }), abort(own, 5), abort(own, 0))...)
		// what else it says does not count
		for i, s := range []string{"", "x", nought(reply)} {
			c := made(t, home(own))
			chosen(t, c, (own+1)%3, "text")
			begins(t, "round 5", c, own, 5)
			deaf(t, "none", c, no...)
			idle(t, "waits", c, i)
			x := abort(own, 5)
			x.Data = s
			sends(t, "abort", c.Hear(x), nil)
			stands(t, "abort", c, 5, false)
			ended(t, "abort", c, 1, api.Ended{User: own, Round: 5, How: api.Aborted, Partner: (own + 1) % 3, At: i})
			deaf(t, "it rests", c, append(no, x)...)
			idle(t, "it rests", c, 9)
			begins(t, "round 6", c, own, 6)
			asked(t, "round 6", c, 2, api.Asked{User: own, Round: 6, Partner: (own + 1) % 3, Text: "text"})
		}
	}
}

func TestTicksToTheLimitAndBehindIt(t *testing.T) {
	for _, limit := range []int{1, 2, 3, 4, 5, 60, 255, 256, 257, 999, 1000} {
		h := home(1)
		h.Limit = limit
		c := made(t, h)
		now := 0
		for round := uint64(1); round <= 3; round++ {
			what := fmt.Sprintf("limit %d, round %d", limit, round)
			idle(t, what, c, int(round)) // those ahead don't count
			begins(t, what, c, 1, round)
			idle(t, what, c, limit-1)
			c.Tick()
			now += int(round) + limit
			stands(t, what, c, round, false)
			ended(t, what, c, int(round), api.Ended{User: 1, Round: round, How: api.Aborted, Partner: -1, At: now})
			idle(t, what, c, limit+2)
			now += limit + 2
		}
	}
}

func TestEndsAtEachTick(t *testing.T) {
	// in the last one it comes too late; what is left of a wait is not waited for in the next round
	for limit := 1; limit <= 4; limit++ {
		for late := range limit {
			for _, how := range []int{api.Answer, api.Abort, api.Start} {
				h := home(0)
				h.Limit = limit
				c := made(t, h)
				now := 0
				for round := uint64(1); round <= 2; round++ {
					what := fmt.Sprintf("limit %d, kind %d %d ticks late, round %d", limit, how, late, round)
					k, _ := peeled(t, nil, round, begins(t, what, c, 0, round))
					idle(t, what, c, late)
					now += late
					want := api.Ended{User: 0, Round: round, How: api.Aborted, Partner: -1, At: now}
					switch how {
					case api.Answer:
						sends(t, what, c.Hear(answer(0, round, closed(nil, round, k, nought(box)))), nil)
						want.How = api.Done
					case api.Abort:
						sends(t, what, c.Hear(abort(0, round)), nil)
					case api.Start:
						continue // the next one aborts it
					}
					stands(t, what, c, round, false)
					ended(t, what, c, int(round), want)
				}
				begins(t, "the next one", c, 0, 3)
				counts(t, "the next one", c, 3, 2)
				idle(t, "the next one", c, limit-1)
				c.Tick()
				ended(t, "the next one", c, 3, api.Ended{User: 0, Round: 3, How: api.Aborted, Partner: -1, At: now + limit})
			}
		}
	}
}

func TestOnlyAStartTakesFromTheTape(t *testing.T) {
	h := home(0)
	h.Book = book.New(true, tape.New(some(1, 3000)))
	c := made(t, h)
	used := func(n int) {
		t.Helper()
		if h.Tape.Used() != n {
			t.Error(h.Tape.Used(), "not", n)
		}
	}
	chosen(t, c, 1, "text")
	idle(t, "rests", c, 3)
	used(0)
	k, _ := peeled(t, h.Book, 5, begins(t, "round 5", c, 0, 5))
	used(layers)
	c.Hear(start(0, 5))
	chosen(t, c, 2, "text")
	c.Tick()
	c.Hear(answer(0, 5, some(1, reply)))
	c.Hear(answer(0, 5, closed(h.Book, 5, k, nought(box))))
	c.Hear(abort(0, 5))
	for range 9 {
		c.Tick()
	}
	used(layers)
	begins(t, "round 6", c, 0, 6)
	used(2 * layers)
	c.Hear(abort(0, 6))
	used(2 * layers)
}

// P24.4: Asked, Ended.

func TestTheRowsOfAskedAndEnded(t *testing.T) {
	c := made(t, home(1))
	var wantAsked []api.Asked
	var wantEnded []api.Ended
	hold := func(what string) {
		t.Helper()
		for range 2 {
			if l := c.Asked(); !slices.Equal(l, wantAsked) {
				t.Fatalf("%s: asked %q", what, fmt.Sprint(l))
			}
			if l := c.Ended(); !slices.Equal(l, wantEnded) {
				t.Fatalf("%s: ended %q", what, fmt.Sprint(l))
			}
		}
	}
	now := 0
	for i := range 24 {
		round := uint64(3*i + 1 + i%3)
		partner, text := []int{0, 2, 1, -5}[i%4], some(i, i%20)
		chosen(t, c, partner, text)
		hold("chosen")
		was := wantAsked
		k, _ := peeled(t, nil, round, begins(t, "round", c, 1, round))
		if partner != 0 && partner != 2 {
			partner, text = -1, ""
		}
		if i > 0 && i%6 == 0 { // the round ahead was waited for
			last := was[len(was)-1]
			wantEnded = append(wantEnded, api.Ended{User: 1, Round: last.Round, How: 2, Partner: last.Partner, At: now})
		}
		wantAsked = append(wantAsked, api.Asked{User: 1, Round: round, Partner: partner, Text: text})
		hold("begins")
		idle(t, "waits", c, i%3)
		now += i % 3
		end := api.Ended{User: 1, Round: round, How: api.Done, Partner: partner, At: now}
		switch i % 6 {
		case 0, 1, 2: // from a partner, if there is one
			if partner >= 0 {
				c.Hear(answer(1, round, closed(nil, round, k, says(t, nil, partner, 1, round, some(50+i, 7)))))
				end.Got, end.Text = true, some(50+i, 7)
			} else {
				c.Hear(answer(1, round, closed(nil, round, k, some(1, box))))
			}
		case 3:
			c.Hear(abort(1, round))
			end.How = api.Aborted
		case 4:
			for c.Waiting() {
				c.Tick()
				now++
			}
			end.How, end.At = api.Aborted, now
		case 5:
			hold("waits")
			continue
		}
		wantEnded = append(wantEnded, end)
		hold("ends")
	}
	if len(wantAsked) != 24 || len(wantEnded) != 23 || now == 0 {
		t.Error(len(wantAsked), len(wantEnded), now)
	}
}

// All users' rounds, there and back through servers' layers.

func TestWhoIsToldWhat(t *testing.T) {
	for n := range 4 * 4 * 4 {
		if n%4 == 0 && n/4%4 == 2 { // some are left out, for the time that they take
			continue
		}
		b := book.New(n%2 == 0, tape.New(some(n, 3000)))
		choices := []int{n%4 - 1, n/4%4 - 1, n/16 - 1}
		var all3 []*client.Client
		var layers [][]api.Key
		var requests []string
		round := uint64(n + 1)
		for u := range 3 {
			h := home(u)
			h.Book, h.HonestServers, h.HonestUsers = b, all(3), all(3)
			c := made(t, h)
			chosen(t, c, choices[u], fmt.Sprint("from ", u))
			k, r := peeled(t, b, round, begins(t, "round", c, u, round))
			all3, layers, requests = append(all3, c), append(layers, k), append(requests, r)
		}
		for u, held := range drop.Match(requests...) {
			c := all3[u]
			sends(t, "answer", c.Hear(answer(u, round, closed(b, round, layers[u], held))), nil)
			want := api.Ended{User: u, Round: round, How: api.Done, Partner: -1}
			if v := choices[u]; v >= 0 && v != u {
				want.Partner = v
				if choices[v] == u {
					want.Got, want.Text = true, fmt.Sprint("from ", v)
				}
			}
			ended(t, fmt.Sprint(choices), c, 1, want)
		}
		if b.Forged() != 0 {
			t.Error(choices, b.Forged())
		}
	}
}

// Against a client as the chapter's words have it.

// plain is a client that keeps all rounds as they stand, and opens what comes box by box.
type plain struct {
	h       client.Home
	now     int
	partner int
	text    string
	rounds  []*one
	over    []api.Ended
}

// one is a round: what it began with, when, and what opens its answer, the outermost first; ended: there is none.
type one struct {
	api.Asked
	since int
	keys  []api.Key
	in    api.Key
}

func (p *plain) round() uint64 {
	if len(p.rounds) == 0 {
		return 0
	}
	return p.rounds[len(p.rounds)-1].Round
}

// open is the round that it waits for.
func (p *plain) open() *one {
	if n := len(p.rounds); n > 0 && p.rounds[n-1].keys != nil {
		return p.rounds[n-1]
	}
	return nil
}

func (p *plain) end(r *one, how int, got bool, text string) {
	r.keys = nil
	p.over = append(p.over, api.Ended{User: p.h.Own, Round: r.Round, How: how, Got: got, Partner: r.Partner, Text: text, At: p.now})
}

func (p *plain) choose(partner int, text string) api.Errno {
	if len(text) > 19 {
		return api.ErrLong
	}
	p.partner, p.text = partner, text
	return api.OK
}

func (p *plain) tick() {
	p.now++
	if r := p.open(); r != nil && p.now-r.since == p.h.Limit {
		p.end(r, api.Aborted, false, "")
	}
}

func (p *plain) begin(round uint64) []api.Frame {
	if r := p.open(); r != nil {
		p.end(r, api.Aborted, false, "")
	}
	r := &one{Asked: api.Asked{User: p.h.Own, Round: round, Partner: -1}, since: p.now}
	p.rounds = append(p.rounds, r)
	request := ""
	for u, pub := range p.h.Users {
		m, e := talk.Meet(p.h.Secret, pub)
		if u != p.partner || u == p.h.Own || e != api.OK {
			continue
		}
		r.Partner, r.Text, r.in = u, p.text, m.In
		name := talk.Name(m.Root, round)
		if p.h.HonestUsers[u] {
			p.h.Book.Share(m.Out)
			p.h.Book.Share(m.In)
			p.h.Book.ShareID(name)
		}
		id := p.h.Book.ID(name)
		body := string([]byte{byte(len(p.text))}) + p.text + nought(19-len(p.text))
		request = string(id[:]) + p.h.Book.Seal(m.Out, derive.Nonce(api.ForTalk, round), body)
	}
	if request == "" {
		id, k := p.h.Tape.Take(16), p.h.Tape.Key()
		request = id + aead.Seal(k, derive.Nonce(api.ForTalk, round), "", nought(20))
	}
	w, e := onion.Wrap(p.h.Book, p.h.Tape, round, 1, p.h.Servers, p.h.HonestServers, request)
	if e != api.OK {
		p.end(r, api.Aborted, false, "")
		return nil
	}
	r.keys = w.Keys
	return ask(p.h.Own, round, w.Onion)
}

func (p *plain) hear(x api.Frame) []api.Frame {
	if x.From != 1 || x.To != 4+p.h.Own {
		return nil
	}
	if x.Kind == api.Start && x.Round > p.round() {
		return p.begin(x.Round)
	}
	r := p.open()
	if r == nil || x.Round != r.Round {
		return nil
	}
	if x.Kind == api.Abort {
		p.end(r, api.Aborted, false, "")
	}
	if x.Kind != api.Answer || len(x.Data) != reply {
		return nil
	}
	s, ok := x.Data, true
	for _, k := range r.keys {
		if s, ok = p.h.Book.Open(k, derive.Nonce(api.ForReply, r.Round), s); !ok {
			return nil
		}
	}
	if r.Partner < 0 {
		p.end(r, api.Done, false, "")
		return nil
	}
	text := ""
	if s, ok = p.h.Book.Open(r.in, derive.Nonce(api.ForTalk, r.Round), s); ok {
		text, ok = wire.Text(s)
	}
	p.end(r, api.Done, ok, text)
	return nil
}

// course is two clients of one kind, and what the servers know of the last onion.
type course struct {
	c    *client.Client
	p    *plain
	h    client.Home // of the client; the plain one's is like it
	keys []api.Key
}

// answer is one that opens, of one book; held tells who says what is in it.
func (o *course) answer(t *testing.T, b *book.Book, held int, text string) string {
	u, round := o.h.Own, o.p.round()
	s := nought(box)
	if held != u && held < 3 {
		p := pair(t, held, u)
		r, e := talk.Say(b, p, o.h.HonestUsers[held], round, text)
		if e != api.OK {
			t.Fatal(e)
		}
		s = r[16:]
	}
	return closed(b, round, o.keys, s)
}

// frame is one that might come, more often of use than not.
func (o *course) frame(t *testing.T, r *rand.Rand) api.Frame {
	x := start(o.h.Own, o.p.round()+1+uint64(r.IntN(3)))
	if o.p.open() != nil && r.IntN(5) > 0 {
		held, text := r.IntN(4), some(r.IntN(99), r.IntN(20))
		if r.IntN(2) == 0 { // the partner, if there is one
			held = max(0, o.p.open().Partner)
		}
		x = answer(o.h.Own, o.p.round(), o.answer(t, o.h.Book, held, text))
		if o.answer(t, o.p.h.Book, held, text) != x.Data {
			t.Fatal("the books are not alike")
		}
		switch r.IntN(9) {
		case 0:
			x = abort(o.h.Own, o.p.round())
		case 1:
			x.Data = closed(nil, o.p.round(), o.keys, x.Data[:box]) // a forgery, if the servers are honest
		}
	}
	switch r.IntN(24) {
	case 0:
		x.From = r.IntN(6)
	case 1:
		x.To = r.IntN(8)
	case 2:
		x.Kind = r.IntN(8)
	case 3:
		x.Round -= uint64(r.IntN(4))
	case 4:
		x.Data = x.Data[:len(x.Data)-min(len(x.Data), r.IntN(3))]
	case 5:
		x.Data = string(append([]byte(x.Data), byte(r.IntN(256))))
	case 6:
		b := []byte(x.Data)
		if len(b) > 0 {
			b[r.IntN(len(b))] ^= 4
		}
		x.Data = string(b)
	}
	return x
}

// step is one of a course, for both clients.
func (o *course) step(t *testing.T, what string, r *rand.Rand) {
	t.Helper()
	switch n := r.IntN(10); {
	case n < 2:
		o.c.Tick()
		o.p.tick()
	case n < 4:
		partner, text := r.IntN(6)-2, some(r.IntN(99), r.IntN(21))
		if got, want := o.c.Choose(partner, text), o.p.choose(partner, text); got != want {
			t.Fatal(what, "Choose", got, want)
		}
	default:
		x := o.frame(t, r)
		got, want := o.c.Hear(x), o.p.hear(x)
		sends(t, what, got, want)
		if len(got) > 0 {
			o.keys, _ = peeled(t, o.h.Book, x.Round, got[0].Data)
		}
	}
	stands(t, what, o.c, o.p.round(), o.p.open() != nil)
	if l := o.c.Ended(); !slices.Equal(l, o.p.over) {
		t.Fatalf("%s: ended %q; want %q", what, fmt.Sprint(l), fmt.Sprint(o.p.over))
	}
	var l []api.Asked
	for _, r := range o.p.rounds {
		l = append(l, r.Asked)
	}
	if got := o.c.Asked(); !slices.Equal(got, l) {
		t.Fatalf("%s: asked %q; want %q", what, fmt.Sprint(got), fmt.Sprint(l))
	}
	if o.h.Book.Forged() != o.p.h.Book.Forged() || o.h.Tape.Used() != o.p.h.Tape.Used() {
		t.Fatal(what, o.h.Book.Forged(), o.p.h.Book.Forged(), o.h.Tape.Used(), o.p.h.Tape.Used())
	}
}

func TestRandomCourses(t *testing.T) {
	seen := map[string]int{}
	for seed := range 12 {
		r := rand.New(rand.NewPCG(24, uint64(seed)))
		ideal := seed%2 == 0
		own := seed % 3
		like := func() client.Home {
			h := home(own)
			h.Tape = tape.New(some(seed, 6000))
			h.Book = book.New(ideal, tape.New(some(seed+50, 6000)))
			h.HonestServers = []bool{seed%4 < 2, true, seed%4 < 3}
			h.HonestUsers = []bool{true, seed%5 > 0, seed%7 > 0}
			if seed == 11 {
				h.Users[(own+1)%3] = api.Key{1}
			}
			if seed == 10 {
				h.Servers[2] = api.Key{1}
			}
			return h
		}
		h := like()
		o := &course{c: made(t, h), p: &plain{h: like(), partner: -1}, h: h}
		for n := range 120 {
			o.step(t, fmt.Sprintf("course %d, step %d", seed, n), r)
		}
		for _, x := range o.c.Ended() {
			seen[fmt.Sprintf("how %d, got %v, a partner: %v", x.How, x.Got, x.Partner >= 0)]++
		}
		seen["forged"] += h.Book.Forged()
	}
	if len(seen) != 6 {
		t.Error(seen)
	}
	for what, n := range seen {
		if n < 15 {
			t.Error(what, n)
		}
	}
}

// 'Ways': a clock's methods are a client's own.

func TestMethodsThatArePromoted(t *testing.T) {
	c := made(t, home(0))
	ticks, ok := any(c).(interface {
		Pass()
		Now() int
		Wait(ticks int)
		Rest()
		Waits() bool
		Over() bool
	})
	if !ok {
		t.Fatal("no clock")
	}
	for n := range 3 {
		if ticks.Now() != n || ticks.Waits() || ticks.Over() {
			t.Error(n, ticks.Now(), ticks.Waits(), ticks.Over())
		}
		c.Tick()
	}
	begins(t, "round 5", c, 0, 5)
	for n := 3; n < 7; n++ {
		if ticks.Now() != n || !ticks.Waits() || ticks.Over() {
			t.Error(n, ticks.Now(), ticks.Waits(), ticks.Over())
		}
		c.Tick()
	}
	if ticks.Now() != 7 || ticks.Waits() || ticks.Over() {
		t.Error(ticks.Now(), ticks.Waits(), ticks.Over())
	}
	ended(t, "round 5", c, 1, api.Ended{User: 0, Round: 5, How: api.Aborted, Partner: -1, At: 7})
}

// Rules that hold everywhere.

func TestWhatIsHandedInIsAsItWasAndNotSeenThrough(t *testing.T) {
	room := func(l []api.Key) []api.Key { return append(slices.Clone(l), api.Key{1}, api.Key{2})[:len(l)] }
	honest := func() []bool { return []bool{true, false, true, true, false} }
	like := func() client.Home {
		h := home(0)
		h.Book = book.New(true, tape.New(some(1, 3000)))
		h.Servers, h.Users = room(h.Servers), room(h.Users)
		h.HonestServers, h.HonestUsers = honest()[:3], honest()[:3]
		return h
	}
	h := like()
	c, twin := made(t, h), made(t, like())
	was := like()
	same := func(what string) {
		t.Helper()
		if !slices.Equal(h.Servers[:5], was.Servers[:5]) || !slices.Equal(h.Users[:5], was.Users[:5]) ||
			!slices.Equal(h.HonestServers[:5], was.HonestServers[:5]) || !slices.Equal(h.HonestUsers[:5], was.HonestUsers[:5]) {
			t.Error(what, "changed a list")
		}
	}
	same("New")
	text := []byte("text and spare")
	chosen(t, c, 2, unsafe.String(&text[0], 4))
	chosen(t, twin, 2, "text")
	want := twin.Hear(start(0, 1))
	sends(t, "round 1", c.Hear(start(0, 1)), want)
	same("a round")
	if string(text) != "text and spare" {
		t.Error("Choose changed a text")
	}
	clear(text)
	clear(h.Servers[:5])
	clear(h.Users[:5])
	clear(h.HonestUsers[:5])
	clear(h.HonestServers[:5])
	h.Own, h.Secret, h.Limit = 1, api.Key{}, 1 // another home: the client's is as it was
	asked(t, "as it was", c, 1, api.Asked{User: 0, Round: 1, Partner: 2, Text: "text"})
	want = twin.Hear(start(0, 2))
	sends(t, "as it was", c.Hear(start(0, 2)), want)
	asked(t, "as it was", c, 2, api.Asked{User: 0, Round: 2, Partner: 2, Text: "text"})
	idle(t, "as it was", c, 3)

	k, _ := peeled(t, nil, 7, begins(t, "round 7", made(t, home(0)), 0, 7))
	c = made(t, home(0))
	begins(t, "round 7", c, 0, 7)
	x := answer(0, 7, closed(nil, 7, k, nought(box)))
	bytes := []byte(x.Data + "spare")
	x.Data = unsafe.String(&bytes[0], len(bytes)-5)
	c.Hear(x)
	stands(t, "round 7", c, 7, false)
	if string(bytes) != closed(nil, 7, k, nought(box))+"spare" {
		t.Error("Hear changed a text")
	}
}

func TestAnAnswersBytesAreNotKept(t *testing.T) {
	c, good, _ := answers(t, 0, nil)
	bytes := []byte(good.Data)
	good.Data = unsafe.String(&bytes[0], len(bytes))
	c.Hear(good)
	clear(bytes)
	ended(t, "as it was", c, 1, api.Ended{User: 0, Round: 5, How: api.Done, Got: true, Partner: 1, Text: "hello"})
}

func TestTheTapeAndTheBookAreThoseThatAreHandedIn(t *testing.T) {
	h := home(0)
	h.Book = book.New(true, tape.New(some(1, 3000)))
	c := made(t, h)
	h.Tape.Take(100)
	chosen(t, c, 1, "text")
	p := pair(t, 0, 1)
	h.Book.Share(p.Out) // the partner is not honest, but it is shared all the same
	_, r := peeled(t, nil, 1, begins(t, "round 1", c, 0, 1))
	if h.Tape.Used() != 100+layers {
		t.Error(h.Tape.Used())
	}
	if r[16:] != aead.Seal(h.Book.Key(p.Out), derive.Nonce(api.ForTalk, 1), "", nought(20)) {
		t.Error("the book is not used")
	}
}

func TestTwoClientsOfOneHome(t *testing.T) {
	h := home(0)
	a, b := made(t, h), made(t, h)
	chosen(t, a, 1, "text")
	begins(t, "a", a, 0, 3)
	stands(t, "b", b, 0, false)
	counts(t, "b", b, 0, 0)
	b.Tick()
	begins(t, "b", b, 0, 2)
	asked(t, "b", b, 1, api.Asked{User: 0, Round: 2, Partner: -1})
	stands(t, "a", a, 3, true)
	if h.Tape.Used() != layers+idles+layers { // the tape is one
		t.Error(h.Tape.Used())
	}
	for range 3 {
		b.Tick()
	}
	b.Tick()
	ended(t, "b", b, 1, api.Ended{User: 0, Round: 2, How: api.Aborted, Partner: -1, At: 5})
	counts(t, "a", a, 1, 0)
	deaf(t, "b", b, abort(0, 3))
	a.Hear(abort(0, 3))
	ended(t, "a", a, 1, api.Ended{User: 0, Round: 3, How: api.Aborted, Partner: 1})
}

// apart holds that texts share no memory.
func apart(t *testing.T, what string, texts ...string) {
	t.Helper()
	type span struct{ from, to uintptr }
	var all []span
	for _, s := range texts {
		if s != "" {
			from := uintptr(unsafe.Pointer(unsafe.StringData(s)))
			all = append(all, span{from, from + uintptr(len(s))})
		}
	}
	slices.SortFunc(all, func(a, b span) int {
		if a.from < b.from {
			return -1
		}
		return 1
	})
	for i := 1; i < len(all); i++ {
		if all[i].from < all[i-1].to {
			t.Error(what, "shares memory")
			return
		}
	}
}

func TestWhatIsToldIsNewMemory(t *testing.T) {
	c := made(t, home(0))
	var texts []string
	hold := func(s string) string {
		s = strings.Clone(s)
		texts = append(texts, s)
		return s
	}
	chosen(t, c, 1, hold("one text"))
	for round := uint64(1); round <= 4; round++ {
		if round == 3 {
			chosen(t, c, 2, hold("another text"))
		}
		l := c.Hear(start(0, round))
		texts = append(texts, l[0].Data)
		k, _ := peeled(t, nil, round, l[0].Data)
		partner := 1 + int(round-1)/2
		c.Hear(answer(0, round, hold(closed(nil, round, k, says(t, nil, partner, 0, round, "what is said")))))
		clear(l[:cap(l)]) // nothing of it is used again
	}
	wantAsked, wantEnded := c.Asked(), c.Ended()
	for range 3 {
		a, e := c.Asked(), c.Ended()
		if !slices.Equal(a, wantAsked) || !slices.Equal(e, wantEnded) || len(a) != 4 || len(e) != 4 {
			t.Fatal(len(a), len(e))
		}
		for i := range a {
			texts = append(texts, a[i].Text, e[i].Text)
		}
		// their room is their own
		clear(a[:cap(a)])
		clear(e[:cap(e)])
	}
	for i := range wantAsked {
		texts = append(texts, wantAsked[i].Text, wantEnded[i].Text)
	}
	if len(texts) != 2+4+4+8*4 || slices.Contains(texts, "") {
		t.Error(len(texts))
	}
	apart(t, "what is told", texts...)

	// what is noted behind that does not come into a list that was told
	a, e := c.Asked(), c.Ended()
	a, e = a[:cap(a)], e[:cap(e)]
	wereAsked, wereEnded := slices.Clone(a), slices.Clone(e)
	for round := uint64(5); round <= 9; round++ {
		begins(t, "later", c, 0, round)
	}
	if !slices.Equal(a, wereAsked) || !slices.Equal(e, wereEnded) {
		t.Error("a list that was told changed")
	}
	counts(t, "later", c, 9, 8)
}

func TestAnswersHangOnTheArgumentsAlone(t *testing.T) {
	run := func(between func()) (told []api.Frame, notes string) {
		h := home(0)
		h.Book, h.HonestServers, h.HonestUsers = book.New(true, tape.New(some(1, 3000))), all(3), all(3)
		c := made(t, h)
		for i, x := range []api.Frame{start(0, 1), start(0, 2), abort(0, 2), start(0, 7), start(0, 7), start(0, 8), answer(0, 8, some(1, reply))} {
			c.Choose(i%4, fmt.Sprint("text ", i))
			between()
			told = append(told, c.Hear(x)...)
			between()
			c.Tick()
		}
		return told, fmt.Sprint(c.Asked(), c.Ended(), c.Round(), c.Waiting())
	}
	want, notes := run(func() {})
	if len(want) != 4 {
		t.Error(len(want))
	}
	other := made(t, home(1))
	for range 5 {
		told, again := run(func() {
			other.Choose(0, "other")
			other.Hear(start(1, other.Round()+1))
			other.Tick()
		})
		sends(t, "once more", told, want)
		if again != notes {
			t.Error("other notes")
		}
	}
}
