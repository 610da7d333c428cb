package wire_test

import (
	"crypto/sha256"
	"fmt"
	"math"
	"slices"
	"strings"
	"testing"
	"unsafe"

	"billet/api"
	"billet/wire"
)

// some is n bytes that look like chance, the same for the same seed.
func some(seed, n int) string {
	var b []byte
	for i := 0; len(b) < n; i++ {
		h := sha256.Sum256(fmt.Append(nil, seed, i))
		b = append(b, h[:]...)
	}
	return string(b[:n])
}

func noughts(n int) string {
	return strings.Repeat("\x00", n)
}

// far are numbers that are too great or too small for all; many are such as may be but for their high bits.
func far() []int {
	return []int{-1, -2, -3, -16, -64, -255, -256, -65535, math.MinInt32, math.MinInt32 + 3, math.MinInt, math.MinInt + 1, math.MinInt + 2, math.MinInt + 3,
		1 << 16, 1<<16 + 1, 1<<16 + 3, math.MaxInt32, 1 << 32, 1<<32 + 1, 1<<32 + 2, 1<<32 + 3, 1<<32 + 256, 1 << 62, 1<<62 + 1, 1<<62 + 3, math.MaxInt - 1, math.MaxInt}
}

// texts are of n bytes: with noughts at both ends, of noughts alone, of 255s, of what looks like chance.
func texts(n int) []string {
	l := []string{noughts(n), strings.Repeat("\xff", n), strings.Repeat("x", n), some(n, n)}
	for k := range n {
		l = append(l, some(k, k)+noughts(n-k), noughts(k)+some(k, n-k), some(1, k)+"\x00"+some(2, n-k-1))
	}
	return l
}

// bodyOf is the body of a text that fits, byte by byte.
func bodyOf(text string) string {
	b := []byte{byte(len(text))}
	for i := range 19 {
		if i < len(text) {
			b = append(b, text[i])
		} else {
			b = append(b, 0)
		}
	}
	return string(b)
}

// textOf is the text of a body, byte by byte; false: it is none.
func textOf(body string) (string, bool) {
	if len(body) != 20 || body[0] > 19 {
		return "", false
	}
	for i := 1 + int(body[0]); i < 20; i++ {
		if body[i] != 0 {
			return "", false
		}
	}
	return body[1 : 1+body[0]], true
}

// listOf is items behind their number.
func listOf(items ...string) string {
	b := []byte{byte(len(items)), byte(len(items) >> 8)}
	for _, item := range items {
		b = append(b, item...)
	}
	return string(b)
}

// itemsOf is the items of a list, byte by byte; false: it is none.
func itemsOf(size int, s string) ([]string, bool) {
	if len(s) < 2 || s[1] != 0 || s[0] > 64 {
		return nil, false
	}
	var l []string
	for range s[0] {
		if 2+(len(l)+1)*size > len(s) {
			return nil, false
		}
		item := ""
		for k := range size {
			item += s[2+len(l)*size+k:][:1]
		}
		l = append(l, item)
	}
	return l, 2+len(l)*size == len(s)
}

// many are n items of size bytes, no two of one seed alike where there is room for that.
func many(seed, n, size int) []string {
	s := some(seed, n*size)
	var l []string
	for i := range n {
		l = append(l, s[i*size:(i+1)*size])
	}
	return l
}

func bodies(t *testing.T, text, want string, e api.Errno) {
	t.Helper()
	if got, f := wire.Body(text); got != want || f != e {
		t.Fatalf("Body of %d, %.40q: %q, %d; not %q, %d", len(text), text, got, f, want, e)
	}
}

func reads(t *testing.T, body, want string, ok bool) {
	t.Helper()
	if got, fine := wire.Text(body); got != want || fine != ok {
		t.Fatalf("Text of %d, %.40q: %q, %v; not %q, %v", len(body), body, got, fine, want, ok)
	}
}

func parts(t *testing.T, request string, id api.ID, box string, ok bool) {
	t.Helper()
	if a, b, fine := wire.Parts(request); a != id || b != box || fine != ok {
		t.Fatalf("Parts of %d, %.60q: %x, %q, %v; not %x, %q, %v", len(request), request, a, b, fine, id, box, ok)
	}
}

func lists(t *testing.T, size int, items []string, want string, e api.Errno) {
	t.Helper()
	if got, f := wire.List(size, items...); got != want || f != e {
		t.Fatalf("List(%d) of %d: %.60q (%d), %d; not %.60q (%d), %d", size, len(items), got, len(got), f, want, len(want), e)
	}
}

func splits(t *testing.T, size int, s string, want []string, e api.Errno) {
	t.Helper()
	if got, f := wire.Items(size, s); !slices.Equal(got, want) || f != e {
		t.Fatalf("Items(%d) of %d, %.40q: %.60q (%d), %d; not %.60q (%d), %d", size, len(s), s, got, len(got), f, want, len(want), e)
	}
}

// bothWays holds that items of size are listed, and told back.
func bothWays(t *testing.T, size int, items []string) {
	t.Helper()
	lists(t, size, items, listOf(items...), api.OK)
	splits(t, size, listOf(items...), items, api.OK)
}

// P12.1

func TestSizesOfTheServers(t *testing.T) {
	for at, want := range [][2]int{1: {196, 84}, 2: {148, 68}, 3: {100, 52}} {
		if o, r := wire.OnionSize(at), wire.ReplySize(at); o != want[0] || r != want[1] {
			t.Error(at, o, r)
		}
	}
}

func TestSizesOfOtherNumbers(t *testing.T) {
	l := append(far(), 0, 4, 5, 6, 7, 8, 36, 48, 52, 100, 148, 196, 255, 256, 257, 258, 259, 260, 513)
	for n := range 64 {
		l = append(l, -n, -1<<n, 4+n)
		if n > 1 {
			l = append(l, 1<<n)
		}
		for at := 1; at <= 3 && n > 1; at++ {
			l = append(l, 1<<n+at+3, -at-n)
		}
	}
	for _, at := range l {
		if at >= 1 && at <= 3 {
			t.Fatal(at)
		}
		if o, r := wire.OnionSize(at), wire.ReplySize(at); o != 0 || r != 0 {
			t.Error(at, o, r)
		}
	}
}

// P12.2: Body

func TestBodyByHand(t *testing.T) {
	bodies(t, "ab", "\x02ab"+noughts(17), api.OK)
	bodies(t, "", noughts(20), api.OK)
	bodies(t, "\x00", "\x01"+noughts(19), api.OK)
	bodies(t, "a\x00", "\x02a"+noughts(18), api.OK)
	bodies(t, "nineteen bytes long", "\x13nineteen bytes long", api.OK)
	bodies(t, "twenty bytes, or not", "", api.ErrLong)
}

func TestBodyOfEachSize(t *testing.T) {
	for n := range api.MaxText + 1 {
		for _, text := range texts(n) {
			bodies(t, text, bodyOf(text), api.OK)
			reads(t, bodyOf(text), text, true)
		}
	}
}

func TestBodyOfTextsThatAreTooLong(t *testing.T) {
	for _, n := range []int{20, 21, 22, 36, 52, 64, 127, 128, 255, 256, 257, 256 + 19, 256 + 20, 512, 65536, 65536 + 1, 65536 + 19, 1 << 20, 1<<24 + 5} {
		bodies(t, noughts(n), "", api.ErrLong)
		bodies(t, strings.Repeat("x", n), "", api.ErrLong)
	}
	for n := 20; n < 600; n++ {
		bodies(t, some(n, n), "", api.ErrLong)
	}
}

func TestNoTwoTextsHaveOneBody(t *testing.T) {
	seen := map[string]string{}
	for n := range api.MaxText + 1 {
		for _, text := range texts(n) {
			b, _ := wire.Body(text)
			if other, ok := seen[b]; ok && other != text {
				t.Errorf("%q, %q: one body", text, other)
			}
			seen[b] = text
		}
	}
}

// P12.2: Text

func TestTextByHand(t *testing.T) {
	reads(t, noughts(20), "", true)
	reads(t, "\x02ab"+noughts(17), "ab", true)
	reads(t, "\x02"+noughts(19), "\x00\x00", true)
	reads(t, "\x13"+noughts(19), noughts(19), true)
	reads(t, "\x13nineteen bytes long", "nineteen bytes long", true)
	reads(t, "\x12nineteen bytes lon\x00", "nineteen bytes lon", true)
	reads(t, "\x12nineteen bytes long", "", false)
	reads(t, "\x14nineteen bytes long", "", false)
	reads(t, "", "", false)
}

func TestTextOfOtherSizes(t *testing.T) {
	for n := range 300 {
		if n == api.BodySize {
			continue
		}
		reads(t, noughts(n), "", false)
		for first := range 256 {
			if n > 0 {
				reads(t, string([]byte{byte(first)})+noughts(n-1), "", false)
				reads(t, string([]byte{byte(first)})+some(n, n-1), "", false)
			}
		}
	}
	for n := range api.MaxText + 1 {
		b := bodyOf(strings.Repeat("x", n))
		reads(t, b[:19], "", false)
		reads(t, b+"\x00", "", false)
		reads(t, b+b, "", false)
		reads(t, "\x00"+b, "", false)
	}
	for _, n := range []int{256 + 20, 512 + 20, 65536 + 20, 1 << 20} {
		reads(t, noughts(n), "", false)
	}
}

func TestTextOfAFirstByteThatIsTooGreat(t *testing.T) {
	for first := api.MaxText + 1; first < 256; first++ {
		reads(t, string([]byte{byte(first)})+noughts(19), "", false)
		reads(t, string([]byte{byte(first)})+some(first, 19), "", false)
		reads(t, string([]byte{byte(first)})+strings.Repeat("x", 19), "", false)
	}
}

func TestTextWithOtherBytesThanNoughtsBehindIt(t *testing.T) {
	for n := range api.MaxText {
		for _, text := range texts(n) {
			for at := 1 + n; at < api.BodySize; at++ {
				for _, v := range []byte{1, 2, 0x20, 0x80, 0xff} {
					b := []byte(bodyOf(text))
					b[at] = v
					reads(t, string(b), "", false)
				}
			}
			b := bodyOf(text)
			reads(t, b[:1+n]+strings.Repeat("\x01", 19-n), "", false)
			if n < api.MaxText-1 {
				reads(t, b[:1+n]+"\x80"+noughts(17-n)+"\x80", "", false) // their sum in a byte is 0
			}
		}
	}
}

func TestTextOfBodiesOfWhichOneByteIsAnother(t *testing.T) {
	for n := range api.MaxText + 1 {
		for at := range api.BodySize {
			for v := range 256 {
				b := []byte(bodyOf(some(n, n)))
				b[at] = byte(v)
				want, ok := textOf(string(b))
				reads(t, string(b), want, ok)
			}
		}
	}
}

func TestTextIsOfNothingButBodies(t *testing.T) {
	// what is told has the body that was read
	for seed := range 20000 {
		s := []byte(some(seed, 41))
		b := make([]byte, 20)
		b[0] = s[0] % 24
		for i := range int(s[1]) % 20 {
			b[1+i] = s[2+i] % 3
		}
		text, ok := wire.Text(string(b))
		back, e := wire.Body(text)
		if ok && (back != string(b) || e != api.OK) || !ok && text != "" {
			t.Fatalf("%q: %q, %v, %q", b, text, ok, back)
		}
		if want, fine := textOf(string(b)); want != text || fine != ok {
			t.Fatalf("%q: %q, %v", b, text, ok)
		}
	}
}

// P12.2: Request, Parts

// names are noughts, 255s, one bit, and what looks like chance.
func names() []api.ID {
	l := []api.ID{{}, {15: 1}, {0: 1}, {0: 0x80, 15: 0x80}, api.ID([]byte(strings.Repeat("\xff", 16)))}
	for i := range 20 {
		l = append(l, api.ID([]byte(some(i, 16))))
	}
	return l
}

func TestRequestByHand(t *testing.T) {
	id := api.ID{1, 2, 3, 15: 16}
	box := "thirty-six bytes, as a box has them."
	want := "\x01\x02\x03" + noughts(12) + "\x10" + box
	if s, e := wire.Request(id, box); s != want || e != api.OK {
		t.Errorf("%q, %d", s, e)
	}
	parts(t, want, id, box, true)
	parts(t, noughts(52), api.ID{}, noughts(36), true)
	parts(t, "", api.ID{}, "", false)
}

func TestRequestOfAllNamesAndBoxes(t *testing.T) {
	for _, id := range names() {
		for i, box := range append(texts(36), noughts(35)+"\x01", "\x01"+noughts(35)) {
			s, e := wire.Request(id, box)
			if e != api.OK || len(s) != 52 {
				t.Fatalf("%x, %d: %q, %d", id, i, s, e)
			}
			for k := range s {
				if k < 16 && s[k] != id[k] || k >= 16 && s[k] != box[k-16] {
					t.Fatalf("%x, %d: byte %d is %x", id, i, k, s[k])
				}
			}
			parts(t, s, id, box, true)
		}
	}
}

func TestRequestOfWhatIsNoBox(t *testing.T) {
	sizes := []int{256 + 36, 512 + 36, 65536 + 36, 1<<20 + 36}
	for n := range 300 {
		if n != api.BoxSize {
			sizes = append(sizes, n)
		}
	}
	for _, n := range sizes {
		for _, id := range names()[:4] {
			for _, box := range []string{noughts(n), strings.Repeat("b", n)} {
				if s, e := wire.Request(id, box); s != "" || e != api.ErrForm {
					t.Fatalf("%d: %.40q, %d", n, s, e)
				}
			}
		}
	}
}

func TestPartsOfOtherSizes(t *testing.T) {
	for n := range 400 {
		if n != api.RequestSize {
			parts(t, noughts(n), api.ID{}, "", false)
			parts(t, strings.Repeat("\xff", n), api.ID{}, "", false)
			parts(t, some(n, n), api.ID{}, "", false)
		}
	}
	for _, n := range []int{256 + 52, 512 + 52, 65536 + 52, 1<<20 + 52} {
		parts(t, strings.Repeat("r", n), api.ID{}, "", false)
	}
}

func TestPartsOfAnyBytes(t *testing.T) {
	for seed := range 500 {
		s := some(seed, 52)
		var id api.ID
		for k := range id {
			id[k] = s[k]
		}
		parts(t, s, id, s[16:], true)
		if back, e := wire.Request(id, s[16:]); back != s || e != api.OK {
			t.Fatalf("%q: %q, %d", s, back, e)
		}
	}
}

// P12.3: List

func TestListByHand(t *testing.T) {
	for _, x := range []struct {
		size  int
		items []string
		want  string
	}{
		{3, []string{"abc"}, "\x01\x00abc"},
		{3, []string{"abc", "def"}, "\x02\x00abcdef"},
		{3, []string{"def", "abc"}, "\x02\x00defabc"}, // as they are in their row
		{3, []string{"abc", "abc"}, "\x02\x00abcabc"}, // doubles, too
		{1, []string{"\x00", "\xff", "\x00"}, "\x03\x00\x00\xff\x00"},
		{1, nil, "\x00\x00"},
		{256, []string{}, "\x00\x00"},
		{6, []string{"abcdef"}, "\x01\x00abcdef"},
		{256, []string{strings.Repeat("z", 256)}, "\x01\x00" + strings.Repeat("z", 256)},
	} {
		bothWays(t, x.size, x.items)
		lists(t, x.size, x.items, x.want, api.OK)
		splits(t, x.size, x.want, x.items, api.OK)
	}
}

func TestListOfEachSizeAndHowMany(t *testing.T) {
	for size := 1; size <= 256; size++ {
		for _, n := range []int{0, 1, 2, 3, 7, 31, 32, 63, api.MaxBatch} {
			bothWays(t, size, many(size+n, n, size))
			bothWays(t, size, slices.Repeat([]string{noughts(size)}, n))
		}
	}
	for n := range api.MaxBatch + 1 {
		for _, size := range []int{1, 2, 36, 52, 68, 84, 100, 148, 196, 255, 256} {
			bothWays(t, size, many(n, n, size))
		}
	}
}

// badSizes are those that no list has.
func badSizes() []int {
	return append(far(), 0, 257, 258, 259, 260, 511, 512, 513, 1000)
}

func TestListOfSizesThatMayNotBe(t *testing.T) {
	for _, size := range badSizes() {
		for _, n := range []int{0, 1, 2, 63, 64, 65, 66, 300} { // too many, too, and of another form
			for _, each := range []int{0, 1, 3, 257} {
				lists(t, size, many(n, n, each), "", api.ErrArg)
			}
		}
		if size > 256 && size < 1<<17 {
			lists(t, size, many(1, 2, size), "", api.ErrArg)
			lists(t, size, many(1, 65, size), "", api.ErrArg)
		}
	}
}

func TestListOfTooMany(t *testing.T) {
	for _, n := range []int{65, 66, 127, 128, 129, 255, 256, 257, 256 + 64, 512, 65536, 65536 + 1, 65536 + 64} {
		for _, size := range []int{1, 3, 256} {
			lists(t, size, many(1, n, 1), "", api.ErrMany) // the form, too, but for size 1
			lists(t, size, slices.Repeat([]string{noughts(size)}, n), "", api.ErrMany)
			lists(t, size, make([]string, n), "", api.ErrMany)
		}
	}
	for _, at := range []int{0, 1, 63, 64} {
		l := slices.Repeat([]string{"abc"}, 65)
		l[at] = "ab"
		lists(t, 3, l, "", api.ErrMany)
	}
}

func TestListOfAnItemOfAnotherSize(t *testing.T) {
	for _, size := range []int{1, 2, 3, 52, 255, 256} {
		for _, n := range []int{1, 2, 3, 10, 63, api.MaxBatch} {
			for at := range n {
				for _, other := range []int{0, size - 1, size + 1, 2 * size, size + 256, size + 65536} {
					l := many(n, n, size)
					l[at] = some(at, other)
					lists(t, size, l, "", api.ErrForm)
				}
			}
		}
	}
}

func TestListOfItemsWhoseSumAloneIsRight(t *testing.T) {
	for _, size := range []int{1, 2, 3, 100, 256} {
		for _, n := range []int{2, 3, 17, api.MaxBatch} {
			for at := range n {
				to := (at + 1) % n
				l := many(n, n, size)
				l[at], l[to] = l[at][1:], l[to]+l[at][:1] // one shorter, one longer
				lists(t, size, l, "", api.ErrForm)
				l = many(n, n, size)
				l[at], l[to] = "", l[at]+l[to] // an empty one, one of two
				lists(t, size, l, "", api.ErrForm)
			}
		}
	}
	lists(t, 2, []string{"a", "bcd"}, "", api.ErrForm)
	lists(t, 3, []string{"abcdef", ""}, "", api.ErrForm)
	lists(t, 3, []string{"", ""}, "", api.ErrForm)
}

// P12.3: Items

func TestItemsOfSizesThatMayNotBe(t *testing.T) {
	for _, size := range badSizes() {
		for _, s := range []string{"", "\x00", "\x00\x00", "\x01\x00", "\x01\x00abc", "\x41\x00", "\x00\x01", "\x01\x01abc", noughts(300)} {
			splits(t, size, s, nil, api.ErrArg)
		}
		if size > 256 && size < 1<<17 {
			splits(t, size, listOf(many(1, 2, size)...), nil, api.ErrArg)
		}
	}
}

func TestItemsOfFewerThanTwoBytes(t *testing.T) {
	for _, size := range []int{1, 2, 3, 255, 256} {
		splits(t, size, "", nil, api.ErrForm)
		for v := range 256 {
			splits(t, size, string([]byte{byte(v)}), nil, api.ErrForm)
		}
	}
}

func TestItemsOfASecondByte(t *testing.T) {
	for high := 1; high < 256; high++ {
		for _, low := range []int{0, 1, 2, 64, 255} {
			head := string([]byte{byte(low), byte(high)})
			splits(t, 1, head, nil, api.ErrForm)
			splits(t, 1, head+strings.Repeat("a", low), nil, api.ErrForm)
			splits(t, 1, head+strings.Repeat("a", low+256*high), nil, api.ErrForm)
			splits(t, 1, head+strings.Repeat("a", high), nil, api.ErrForm)
			splits(t, 3, head+strings.Repeat("abc", low), nil, api.ErrForm)
			splits(t, 3, head+strings.Repeat("abc", low+256*high), nil, api.ErrForm)
		}
	}
	splits(t, 3, "\x00\x01abc", nil, api.ErrForm) // not the highest first
	splits(t, 256, "\x00\x01"+strings.Repeat("z", 256*256), nil, api.ErrForm)
}

func TestItemsOfANumberThatIsTooGreat(t *testing.T) {
	for n := api.MaxBatch + 1; n < 256; n++ {
		head := string([]byte{byte(n), 0})
		for _, size := range []int{1, 3, 256} {
			splits(t, size, head, nil, api.ErrForm)
			splits(t, size, head+strings.Repeat("a", n*size), nil, api.ErrForm)
			splits(t, size, head+strings.Repeat("a", api.MaxBatch*size), nil, api.ErrForm)
		}
	}
}

func TestItemsOfMoreOrFewerBytesThanTheNumberTells(t *testing.T) {
	for n := range api.MaxBatch + 1 {
		for _, size := range []int{1, 2, 3, 52, 196, 255, 256} {
			s := listOf(many(n, n, size)...)
			splits(t, size, s[:len(s)-1], nil, api.ErrForm)
			splits(t, size, s+"\x00", nil, api.ErrForm)
			splits(t, size, s+"x", nil, api.ErrForm)
			splits(t, size, s+noughts(size), nil, api.ErrForm)
			splits(t, size, s+s, nil, api.ErrForm)
			splits(t, size, s+noughts(65536), nil, api.ErrForm)
			if n > 0 {
				splits(t, size, s[:len(s)-size], nil, api.ErrForm)
				splits(t, size, s[:2], nil, api.ErrForm)
			}
		}
	}
}

func TestItemsOfAnotherSizeThanListed(t *testing.T) {
	for n := range 20 {
		for size := 1; size <= 20; size++ {
			s := listOf(many(n, n, size)...)
			for other := 1; other <= 256; other++ {
				if n == 0 {
					splits(t, other, s, nil, api.OK) // of none there is no size to be seen
				} else if other != size {
					splits(t, other, s, nil, api.ErrForm)
				}
			}
		}
	}
}

func TestItemsOfTheGreatestList(t *testing.T) {
	l := many(1, api.MaxBatch, 256)
	s, e := wire.List(256, l...)
	if e != api.OK || len(s) != 2+64*256 || s[:2] != "\x40\x00" || s[2:] != strings.Join(l, "") {
		t.Fatal(len(s), e)
	}
	splits(t, 256, s, l, api.OK)
	splits(t, 255, s, nil, api.ErrForm)
	splits(t, 128, s, nil, api.ErrForm)
}

// short are all texts of at most n bytes of a few.
func short(n int) []string {
	all := []string{""}
	for from := 0; n > 0; n-- {
		to := len(all)
		for _, s := range all[from:to] {
			for _, c := range []string{"\x00", "\x01", "\x02", "\x03", "\x04", "A"} {
				all = append(all, s+c)
			}
		}
		from = to
	}
	return all
}

func TestItemsIsOfNothingButLists(t *testing.T) {
	for _, s := range short(6) {
		for size := 1; size <= 4; size++ {
			want, ok := itemsOf(size, s)
			if !ok {
				splits(t, size, s, nil, api.ErrForm)
				continue
			}
			splits(t, size, s, want, api.OK)
			lists(t, size, want, s, api.OK)
		}
	}
}

// Rules that hold everywhere

// apart tells if two texts have no byte in one place of memory.
func apart(a, b string) bool {
	if a == "" || b == "" {
		return true
	}
	x, y := uintptr(unsafe.Pointer(unsafe.StringData(a))), uintptr(unsafe.Pointer(unsafe.StringData(b)))
	return x+uintptr(len(a)) <= y || y+uintptr(len(b)) <= x
}

// allApart holds that no two of the texts share memory.
func allApart(t *testing.T, what any, l ...string) {
	t.Helper()
	for i, a := range l {
		for _, b := range l[:i] {
			if !apart(a, b) {
				t.Fatalf("%v: %.40q and %.40q share memory", what, a, b)
			}
		}
	}
}

func TestTextsThatAreToldAreNewMemory(t *testing.T) {
	for n := range api.MaxText + 1 {
		text := some(n, n)
		a, _ := wire.Body(text)
		b, _ := wire.Body(text)
		c, _ := wire.Text(a)
		d, _ := wire.Text(a)
		allApart(t, n, text, a, b, c, d)
	}
	id, box := names()[7], some(1, 36)
	a, _ := wire.Request(id, box)
	b, _ := wire.Request(id, box)
	_, c, _ := wire.Parts(a)
	_, d, _ := wire.Parts(a)
	allApart(t, "a request", box, a, b, c, d)
}

func TestListsThatAreToldAreNewMemory(t *testing.T) {
	for _, size := range []int{1, 2, 52, 256} {
		for _, n := range []int{0, 1, 2, 3, 64} {
			l := many(n, n, size)
			for i := range l {
				l[i] = strings.Clone(l[i])
			}
			a, _ := wire.List(size, l...)
			b, _ := wire.List(size, l...)
			c, _ := wire.Items(size, a)
			d, _ := wire.Items(size, a)
			allApart(t, size, slices.Concat(l, []string{a, b}, c, d)...)
			spoil(c, "spoilt")
			if !slices.Equal(d, l) {
				t.Error(size, n, "two answers share a list")
			}
			splits(t, size, a, l, api.OK)
		}
	}
}

// spoil writes over a list, its spare room too.
func spoil(l []string, x string) {
	l = l[:cap(l)]
	for i := range l {
		l[i] = x
	}
}

func TestWhatIsHandedInIsAsItWas(t *testing.T) {
	for _, size := range append(badSizes(), 1, 3, 256) {
		for _, n := range []int{0, 1, 2, 3, 64, 65, 66} {
			for _, each := range []int{1, 3, 4, 256} {
				was := many(n, n, each)
				room := append(slices.Clone(was), "spare", "spare", "spare")
				wire.List(size, room[:n]...)
				wire.List(size, room[n:n]...)
				if !slices.Equal(room[:n], was) || !slices.Equal(room[n:n+3], []string{"spare", "spare", "spare"}) {
					t.Fatal(size, n, each, "changed")
				}
			}
		}
	}
}

func TestTextsHandedInAreAsTheyWere(t *testing.T) {
	for n := range 400 {
		was := some(n, n)
		b := []byte(was + "spare")
		s := unsafe.String(&b[0], n)
		id := names()[n%20]
		wire.Body(s)
		wire.Text(s)
		wire.Request(id, s)
		wire.Parts(s)
		wire.List(n, s, s)
		wire.Items(n, s)
		wire.Items(1, s)
		if string(b) != was+"spare" || id != names()[n%20] {
			t.Fatal(n, "changed")
		}
	}
	for n := 1; n <= 256; n++ {
		was := listOf(many(n, n%65, n)...)
		b := []byte(was + "spare")
		wire.Items(n, unsafe.String(&b[0], len(was)))
		if string(b) != was+"spare" {
			t.Fatal(n, "changed")
		}
	}
}

func TestNothingHandedInIsKept(t *testing.T) {
	// what is told stays as it is when the bytes that were handed in are written over
	for n := range api.MaxText + 1 {
		b := []byte(bodyOf(some(n, n)))
		body, _ := wire.Body(unsafe.String(&b[1], n))
		text, _ := wire.Text(unsafe.String(&b[0], len(b)))
		clear(b)
		if body != bodyOf(some(n, n)) || text != some(n, n) {
			t.Error(n, "shared")
		}
	}
	b := []byte(some(1, 52))
	_, box, _ := wire.Parts(unsafe.String(&b[0], 52))
	request, _ := wire.Request(api.ID(b[:16]), unsafe.String(&b[16], 36))
	list, _ := wire.List(52, unsafe.String(&b[0], 52))
	items, _ := wire.Items(50, "\x01\x00"+unsafe.String(&b[2], 50))
	clear(b)
	if box != some(1, 52)[16:] || request != some(1, 52) || list != "\x01\x00"+some(1, 52) || items[0] != some(1, 52)[2:] {
		t.Error("shared")
	}
	b = []byte(listOf(many(1, 9, 7)...))
	items, _ = wire.Items(7, unsafe.String(&b[0], len(b)))
	clear(b)
	if !slices.Equal(items, many(1, 9, 7)) {
		t.Error("shared")
	}
}

func TestAnswersHangOnTheArgumentsAlone(t *testing.T) {
	l := many(1, 5, 9)
	for i := range 50 {
		wire.Body(some(i, i))
		wire.Text(some(i, 20))
		wire.Request(api.ID{}, some(i, i))
		wire.Parts(some(i, 52))
		wire.List(i, many(i, i+40, i)...)
		wire.Items(i, some(i, i))
		bodies(t, "ab", "\x02ab"+noughts(17), api.OK)
		reads(t, noughts(20), "", true)
		parts(t, noughts(16)+some(1, 36), api.ID{}, some(1, 36), true)
		bothWays(t, 9, l)
		if wire.OnionSize(2) != 148 || wire.ReplySize(2) != 68 {
			t.Fatal("the sizes")
		}
	}
}
