package net_test

import (
	"math"
	"math/rand/v2"
	"slices"
	"strconv"
	"strings"
	"testing"
	"unsafe"

	"billet/api"
	"billet/net"
)

// it is an item.
func it(to int, raw string) api.Item {
	return api.Item{To: to, Raw: raw}
}

// of is a net in which those are in flight.
func of(l ...api.Item) *net.Net {
	n := new(net.Net)
	for _, x := range l {
		n.Put(x.To, x.Raw)
	}
	return n
}

// holds holds that just those are in flight, in their row.
func holds(t *testing.T, what string, n *net.Net, want ...api.Item) {
	t.Helper()
	got := n.All()
	if len(got) != len(want) {
		t.Fatalf("%s: %d are in flight, want %d", what, len(got), len(want))
	}
	for i, x := range got {
		if x != want[i] {
			t.Fatalf("%s: the item %d is %d %.40q, want %d %.40q", what, i, x.To, x.Raw, want[i].To, want[i].Raw)
		}
	}
}

// takes holds that Take tells an item.
func takes(t *testing.T, n *net.Net, i int, want api.Item) {
	t.Helper()
	if x, ok := n.Take(i); !ok || x != want {
		t.Fatalf("Take(%d): %d %.40q, %v; want %d %.40q", i, x.To, x.Raw, ok, want.To, want.Raw)
	}
}

// without is a row without its i-th item.
func without(l []api.Item, i int) []api.Item {
	return slices.Concat(l[:i], l[i+1:])
}

// rows are rows of items: of none, one, two, more; with some that are alike, of no bytes, of any addresses.
func rows() [][]api.Item {
	return [][]api.Item{
		nil,
		{it(1, "a")},
		{it(0, "")},
		{it(1, "a"), it(2, "b")},
		{it(1, "a"), it(1, "a")},
		{it(1, "a"), it(2, "b"), it(3, "c")},
		{it(1, ""), it(2, ""), it(3, "")},
		{it(4, "same"), it(4, "same"), it(4, "same"), it(4, "same")},
		{it(-5, "far"), it(math.MaxInt, "\x00"), it(math.MinInt, "\xff\x00"), it(0, "e"), it(9, "\n"), it(4, "a b"), it(5, "ä")},
	}
}

// none are numbers of which no item of a row of n has one.
func none(n int) []int {
	return []int{
		-1, -2, -n, -n - 1, -255, -256, -65536, math.MinInt32, math.MinInt32 - 1, -math.MaxUint32 - 1, math.MinInt + 1, math.MinInt,
		n, n + 1, 2*n + 1, n + 255, n + 256, n + 65536, math.MaxInt32, math.MaxInt32 + 1, math.MaxUint32, math.MaxUint32 + 1, 1 << 62, math.MaxInt - 1, math.MaxInt,
	}
}

// The chapter's examples.

func TestExamples(t *testing.T) {
	n := of(it(1, "a"), it(2, "b"), it(3, "c"))
	takes(t, n, 1, it(2, "b"))
	holds(t, "Take(1)", n, it(1, "a"), it(3, "c"))

	if x, ok := n.Take(-1); ok || x != it(0, "") {
		t.Error("Take(-1): ", x, ok)
	}
	holds(t, "Take(-1)", n, it(1, "a"), it(3, "c"))
}

// P25.1: the zero value.

func TestNothingIsInFlightInTheZeroValue(t *testing.T) {
	var v net.Net
	for what, n := range map[string]*net.Net{"a variable": &v, "a literal": {}, "new": new(net.Net)} {
		holds(t, what, n)
		for _, i := range append(none(0), 1, 2) {
			x, ok := n.Take(i)
			if ok || x != it(0, "") || n.Drop(i) || n.Twice(i) || n.Turn(i, "x") {
				t.Errorf("%s: there is an item %d", what, i)
			}
			holds(t, what, n)
		}
		n.Put(7, "g")
		holds(t, what, n, it(7, "g"))
	}
}

// P25.1: Put and All.

func TestPutOnce(t *testing.T) {
	for _, to := range []int{0, 1, 2, 3, api.FirstUser, 9, 10, 255, 256, -1, -5, math.MaxInt32 + 1, math.MaxInt, math.MinInt} {
		for _, raw := range []string{"", "a", "\x00", "\xff\xfe", "text", strings.Repeat("\x00", 5), strings.Repeat("long", api.MaxData)} {
			holds(t, "Put", of(it(to, raw)), it(to, raw))
		}
	}
}

func TestPutOfEachByte(t *testing.T) {
	n := new(net.Net)
	var want []api.Item
	all := ""
	for b := range 256 {
		s := string([]byte{byte(b)})
		all += s
		n.Put(b, s)
		n.Put(-b, all)
		want = append(want, it(b, s), it(-b, all))
	}
	holds(t, "bytes", n, want...)
}

func TestPutIsBehindAllOthers(t *testing.T) {
	n := new(net.Net)
	var want []api.Item
	for k := range 300 {
		x := it(k%7, strconv.Itoa(k*k%11))
		n.Put(x.To, x.Raw)
		want = append(want, x)
		holds(t, "Put", n, want...)
	}
}

func TestPutOfMany(t *testing.T) {
	n := new(net.Net)
	const many = 70000
	for k := range many {
		n.Put(k, strconv.Itoa(-k))
	}
	l := n.All()
	if len(l) != many {
		t.Fatal(len(l))
	}
	for k, x := range l {
		if x != it(k, strconv.Itoa(-k)) {
			t.Fatal(k, x)
		}
	}
	takes(t, n, many-1, it(many-1, strconv.Itoa(1-many)))
	takes(t, n, 65536, it(65536, "-65536"))
	takes(t, n, 65536, it(65537, "-65537"))
	takes(t, n, 0, it(0, "0"))
	if l := n.All(); len(l) != many-4 || l[0] != it(1, "-1") || l[65535] != it(65538, "-65538") || l[many-5] != it(many-2, strconv.Itoa(2-many)) {
		t.Fatal("what is left of many")
	}
}

func TestPutOfOneThatIsAlikeIsOneMore(t *testing.T) {
	n := new(net.Net)
	var want []api.Item
	for range 5 {
		n.Put(3, "same")
		want = append(want, it(3, "same"))
		holds(t, "the same", n, want...)
	}
	n.Put(3, "")
	n.Put(3, "")
	holds(t, "of no bytes", n, append(want, it(3, ""), it(3, ""))...)
}

func TestAllChangesNothing(t *testing.T) {
	for _, l := range rows() {
		n := of(l...)
		for range 3 {
			holds(t, "All", n, l...)
		}
		n.Put(8, "more")
		holds(t, "All, Put", n, append(slices.Clone(l), it(8, "more"))...)
	}
}

// P25.1: Take, Drop, Twice, Turn, of each item of each row.

func TestTakeOfEach(t *testing.T) {
	for _, l := range rows() {
		for i, x := range l {
			n := of(l...)
			takes(t, n, i, x)
			holds(t, "Take", n, without(l, i)...)
			n.Put(6, "behind")
			holds(t, "Take, Put", n, append(without(l, i), it(6, "behind"))...)
		}
	}
}

func TestDropOfEach(t *testing.T) {
	for _, l := range rows() {
		for i := range l {
			n := of(l...)
			if !n.Drop(i) {
				t.Fatalf("Drop(%d) of %d: false", i, len(l))
			}
			holds(t, "Drop", n, without(l, i)...)
			n.Put(6, "behind")
			holds(t, "Drop, Put", n, append(without(l, i), it(6, "behind"))...)
		}
	}
}

func TestTwiceOfEach(t *testing.T) {
	for _, l := range rows() {
		for i, x := range l {
			n := of(l...)
			if !n.Twice(i) {
				t.Fatalf("Twice(%d) of %d: false", i, len(l))
			}
			holds(t, "Twice", n, append(slices.Clone(l), x)...)
			n.Put(6, "behind")
			if !n.Twice(i) {
				t.Fatalf("Twice(%d) of %d once more: false", i, len(l))
			}
			holds(t, "Twice, Put, Twice", n, append(slices.Clone(l), x, it(6, "behind"), x)...)
		}
	}
}

func TestTurnOfEach(t *testing.T) {
	for _, l := range rows() {
		for i, x := range l {
			for _, raw := range []string{"", "t", x.Raw, "other bytes", "\x00\xff", strings.Repeat("long", api.MaxData)} {
				n := of(l...)
				want := slices.Clone(l)
				want[i].Raw = raw
				if !n.Turn(i, raw) {
					t.Fatalf("Turn(%d) of %d: false", i, len(l))
				}
				holds(t, "Turn", n, want...)
				takes(t, n, i, it(x.To, raw))
				holds(t, "Turn, Take", n, without(l, i)...)
			}
		}
	}
}

func TestThereIsNoneBelowNoughtNorBehindTheLast(t *testing.T) {
	for _, l := range rows() {
		n := of(l...)
		for _, i := range none(len(l)) {
			if i >= 0 && i < len(l) { // -n of a row of none
				continue
			}
			if x, ok := n.Take(i); ok || x != it(0, "") {
				t.Fatalf("Take(%d) of %d: %d %q, %v", i, len(l), x.To, x.Raw, ok)
			}
			holds(t, "Take of none", n, l...)
			if n.Drop(i) {
				t.Fatalf("Drop(%d) of %d: true", i, len(l))
			}
			holds(t, "Drop of none", n, l...)
			if n.Twice(i) {
				t.Fatalf("Twice(%d) of %d: true", i, len(l))
			}
			holds(t, "Twice of none", n, l...)
			if n.Turn(i, "turned") || n.Turn(i, "") {
				t.Fatalf("Turn(%d) of %d: true", i, len(l))
			}
			holds(t, "Turn of none", n, l...)
		}
	}
}

func TestWhatLeftIsCountedNoMore(t *testing.T) {
	for _, out := range []func(n *net.Net, i int) bool{
		func(n *net.Net, i int) bool { _, ok := n.Take(i); return ok },
		(*net.Net).Drop,
	} {
		n := of(it(1, "a"), it(2, "b"), it(3, "c"))
		if !out(n, 2) || out(n, 2) || n.Twice(2) || n.Turn(2, "x") {
			t.Error("the last one left, and is there")
		}
		holds(t, "two", n, it(1, "a"), it(2, "b"))
		if !out(n, 0) || out(n, 1) || n.Twice(1) || n.Turn(1, "x") {
			t.Error("the first one left, and the row is as long as before")
		}
		holds(t, "one", n, it(2, "b"))
		if !out(n, 0) || out(n, 0) || n.Twice(0) || n.Turn(0, "x") {
			t.Error("all left, and one is there")
		}
		holds(t, "none", n)
		n.Put(4, "")
		holds(t, "one more", n, it(4, ""))
	}
}

func TestWhatIsMoreIsCounted(t *testing.T) {
	n := of(it(1, "a"))
	for k := 1; k < 200; k++ {
		if n.Twice(k) || !n.Twice(k-1) {
			t.Fatal("Twice, with so many in flight: ", k)
		}
	}
	want := slices.Repeat([]api.Item{it(1, "a")}, 200)
	holds(t, "200", n, want...)
	if n.Turn(200, "z") || !n.Turn(199, "z") || !n.Turn(198, "y") {
		t.Fatal("Turn of the last ones")
	}
	want[198].Raw, want[199].Raw = "y", "z"
	holds(t, "turned", n, want...)
}

func TestOneMoreIsNotTurnedWithTheFirstOne(t *testing.T) {
	n := of(it(1, "a"), it(2, "b"))
	n.Twice(0)
	n.Turn(0, "first")
	holds(t, "the first one turned", n, it(1, "first"), it(2, "b"), it(1, "a"))
	n.Turn(2, "second")
	holds(t, "the second one turned", n, it(1, "first"), it(2, "b"), it(1, "second"))
	n.Twice(0)
	holds(t, "Twice of what was turned", n, it(1, "first"), it(2, "b"), it(1, "second"), it(1, "first"))
	n.Drop(0)
	holds(t, "the first one dropped", n, it(2, "b"), it(1, "second"), it(1, "first"))
}

func TestOfManyTheLastTurnHolds(t *testing.T) {
	n := of(it(1, "a"), it(2, "b"), it(3, "c"))
	for _, s := range []string{"x", "", "longer than it was", "b", "y"} {
		n.Turn(1, s)
		holds(t, "Turn", n, it(1, "a"), it(2, s), it(3, "c"))
	}
}

// P25.1: the row of what is left, after any calls, held against a row that is made anew in each of them.

func TestAnyCalls(t *testing.T) {
	for seed := range uint64(200) {
		r := rand.New(rand.NewPCG(25, seed))
		n := new(net.Net)
		var row []api.Item
		for range 150 {
			i := r.IntN(len(row)+3) - 1
			there := i >= 0 && i < len(row)
			raw := strings.Repeat(string([]byte{byte(r.IntN(256))}), r.IntN(4))
			switch r.IntN(6) {
			case 0, 1:
				to := r.IntN(20) - 5
				n.Put(to, raw)
				row = append(slices.Clone(row), it(to, raw))
			case 2:
				if there {
					takes(t, n, i, row[i])
				} else if x, ok := n.Take(i); ok || x != it(0, "") {
					t.Fatal("Take of none")
				}
				if there {
					row = without(row, i)
				}
			case 3:
				if n.Drop(i) != there {
					t.Fatal("Drop")
				}
				if there {
					row = without(row, i)
				}
			case 4:
				if n.Twice(i) != there {
					t.Fatal("Twice")
				}
				if there {
					row = append(slices.Clone(row), row[i])
				}
			case 5:
				if n.Turn(i, raw) != there {
					t.Fatal("Turn")
				}
				if there {
					row = slices.Clone(row)
					row[i].Raw = raw
				}
			}
			holds(t, "any calls", n, row...)
		}
	}
}

// P25.1: of nil.

func TestNilNet(t *testing.T) {
	var n *net.Net
	for range 2 {
		n.Put(1, "a")
		n.Put(0, "")
		if l := n.All(); len(l) != 0 {
			t.Error("All of nil: ", len(l))
		}
		for _, i := range append(none(0), 1, 2) {
			if x, ok := n.Take(i); ok || x != it(0, "") {
				t.Error("Take of nil", i)
			}
			if n.Drop(i) || n.Twice(i) || n.Turn(i, "x") || n.Turn(i, "") {
				t.Error("nil has an item", i)
			}
		}
	}
	if n != nil {
		t.Error("nil is no more")
	}
}

// Rule 2: what is told is new memory, and what is handed in is not kept.

// written is a text that can be written over.
func written(s string) (string, []byte) {
	b := []byte(s)
	return unsafe.String(&b[0], len(b)), b
}

// apart tells if two texts share no memory.
func apart(a, b string) bool {
	if a == "" || b == "" {
		return true
	}
	x, y := uintptr(unsafe.Pointer(unsafe.StringData(a))), uintptr(unsafe.Pointer(unsafe.StringData(b)))
	return x+uintptr(len(a)) <= y || y+uintptr(len(b)) <= x
}

// allApart holds that no two of the texts share memory.
func allApart(t *testing.T, what string, l ...string) {
	t.Helper()
	for i, a := range l {
		for k, b := range l[:i] {
			if !apart(a, b) {
				t.Fatalf("%s: the texts %d and %d share memory", what, k, i)
			}
		}
	}
}

// raws are the items' bytes.
func raws(l []api.Item) []string {
	var s []string
	for _, x := range l {
		s = append(s, x.Raw)
	}
	return s
}

func TestWhatIsHandedInIsNotKept(t *testing.T) {
	n := new(net.Net)
	s, b := written("put")
	n.Put(1, s)
	n.Put(2, s)
	if string(b) != "put" {
		t.Error("Put wrote over its text")
	}
	copy(b, "xyz")
	holds(t, "Put's text was written over", n, it(1, "put"), it(2, "put"))

	s, b = written("turned")
	n.Turn(0, s)
	n.Turn(2, s)
	if string(b) != "turned" {
		t.Error("Turn wrote over its text")
	}
	copy(b, "uvwxyz")
	holds(t, "Turn's text was written over", n, it(1, "turned"), it(2, "put"))
	n.Twice(0)
	copy(b, "123456")
	holds(t, "Twice of it", n, it(1, "turned"), it(2, "put"), it(1, "turned"))
	takes(t, n, 0, it(1, "turned"))
}

func TestTextsThatAreToldAreNewMemory(t *testing.T) {
	n := new(net.Net)
	put, turn := strings.Clone("a text"), strings.Clone("turned")
	n.Put(1, put)
	n.Put(2, put)
	n.Put(3, "")
	n.Twice(0)
	n.Twice(0)
	n.Turn(1, turn)
	n.Turn(4, turn)
	n.Twice(1)
	told := []string{put, turn}
	for range 2 {
		told = append(told, raws(n.All())...)
	}
	for i := range 6 {
		x, ok := n.Take(0)
		if !ok {
			t.Fatal("Take", i)
		}
		told = append(told, x.Raw)
		told = append(told, raws(n.All())...)
	}
	allApart(t, "Put, Turn, All, Take", told...)
}

func TestWhatAllToldIsNotChangedByLaterCalls(t *testing.T) {
	start := []api.Item{it(1, "a"), it(2, "b"), it(3, "c"), it(4, "d")}
	for what, call := range map[string]func(n *net.Net){
		"Put":   func(n *net.Net) { n.Put(5, "e") },
		"Takes": func(n *net.Net) { n.Take(0); n.Take(1); n.Take(1) },
		"Drops": func(n *net.Net) { n.Drop(3); n.Drop(0); n.Drop(0); n.Drop(0); n.Put(9, "z") },
		"Twice": func(n *net.Net) { n.Twice(2); n.Twice(0) },
		"Turns": func(n *net.Net) { n.Turn(0, "x"); n.Turn(3, ""); n.Turn(1, "y") },
		"further": func(n *net.Net) {
			n.Drop(0)
			n.Put(7, "g")
			n.Turn(0, "h")
			n.Twice(0)
			n.Take(1)
			n.Put(8, "i")
		},
	} {
		n := of(start...)
		l := n.All()
		more := n.All()
		call(n)
		if !slices.Equal(l, start) || !slices.Equal(more, start) {
			t.Errorf("%s changed what All told", what)
		}
		now := n.All()
		call(n)
		if !slices.Equal(l, start) {
			t.Errorf("%s once more changed what All told", what)
		}
		if &l[0] == &more[0] || len(now) > 0 && &l[0] == &now[0] {
			t.Errorf("%s: two answers share memory", what)
		}
	}
}

func TestChangingWhatWasToldDoesNotChangeTheNet(t *testing.T) {
	for k := 1; k < 40; k++ {
		n := new(net.Net)
		var want []api.Item
		for i := range k {
			n.Put(i, strconv.Itoa(i))
			want = append(want, it(i, strconv.Itoa(i)))
		}
		l, other := n.All(), n.All()
		spoil(l)
		holds(t, "spoilt", n, want...)
		if !slices.Equal(other, want) {
			t.Fatal("two answers share memory: ", k)
		}
		n.Put(-1, "behind")
		holds(t, "spoilt, Put", n, append(slices.Clone(want), it(-1, "behind"))...)
		l = n.All()
		n.Drop(0)
		spoil(l)
		holds(t, "Drop, spoilt", n, append(slices.Clone(want[1:]), it(-1, "behind"))...)
	}
}

// spoil writes over a list, its spare room too.
func spoil(l []api.Item) {
	l = l[:cap(l)]
	for i := range l {
		l[i] = it(99, "spoilt")
	}
}

func TestSpareRoomIsEmpty(t *testing.T) {
	n := of(it(1, "a"), it(2, "b"), it(3, "c"), it(4, "d"), it(5, "e"))
	for k := 4; k >= 0; k-- {
		n.Drop(0)
		l := n.All()
		for _, x := range l[k:cap(l)] {
			if x != it(0, "") {
				t.Fatal("behind what is told stands what left")
			}
		}
	}
}

// Rule 4: an answer hangs on the net alone.

func TestNetsAreApart(t *testing.T) {
	var a, b net.Net
	a.Put(1, "a")
	holds(t, "the other one", &b)
	b.Put(2, "b")
	b.Put(3, "c")
	holds(t, "one", &a, it(1, "a"))
	a.Twice(0)
	b.Turn(0, "d")
	a.Drop(0)
	b.Take(1)
	holds(t, "one, later", &a, it(1, "a"))
	holds(t, "the other one, later", &b, it(2, "d"))
	for _, x := range b.All() {
		a.Put(x.To, x.Raw)
	}
	b.Turn(0, "e")
	holds(t, "one, with what the other one told", &a, it(1, "a"), it(2, "d"))
}

func TestANetCanBeEmbedded(t *testing.T) {
	var all struct {
		net.Net
		other int
	}
	all.Put(1, "a")
	all.Put(2, "b")
	all.Twice(0)
	if !all.Turn(1, "c") || !all.Drop(0) {
		t.Error("its own calls")
	}
	takes(t, &all.Net, 1, it(1, "a"))
	if l := all.All(); len(l) != 1 || l[0] != it(2, "c") {
		t.Error(l)
	}
}
