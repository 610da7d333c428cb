package frame_test

import (
	"crypto/sha256"
	"fmt"
	"math"
	"strings"
	"testing"
	"unsafe"

	"billet/api"
	"billet/derive"
	"billet/frame"
)

// some is n bytes that look like chance, the same for the same seed.
func some(seed, n int) string {
	var b []byte
	for i := 0; len(b) < n; i++ {
		h := sha256.Sum256(fmt.Append(nil, seed, i))
		b = append(b, h[:]...)
	}
	return string(b[:n])
}

func noughts(n int) string {
	return strings.Repeat("\x00", n)
}

// far are numbers that are too great or too small for all; many are such as may be but for their high bits.
func far() []int {
	l := []int{-1, -2, -3, -4, -128, -250, -255, -256, math.MinInt32, math.MinInt, math.MinInt + 1, math.MinInt + 3, math.MinInt + 4, math.MinInt + 5,
		11, 16, 64, 127, 128, 129, 132, 255, math.MaxInt32, math.MaxInt - 1, math.MaxInt}
	for _, shift := range []int{8, 9, 15, 16, 24, 31, 32, 33, 48, 62} {
		for low := range 11 {
			l = append(l, 1<<shift+low, -1<<shift+low)
		}
	}
	return l
}

// isAddress tells of each address by hand.
func isAddress(n int) bool {
	switch n {
	case 1, 2, 3: // the servers
		return true
	case 4, 5, 6, 7, 8, 9: // the users
		return true
	}
	return false
}

// isKind tells of each kind by hand.
func isKind(n int) bool {
	switch n {
	case 1, 2, 3, 4, 5, 6:
		return true
	}
	return false
}

// may tells if a frame may be, field by field.
func may(f api.Frame) bool {
	return isAddress(f.From) && isAddress(f.To) && isKind(f.Kind) && len(f.Data) <= 16384
}

// bytesOf is a frame's bytes, one by one.
func bytesOf(f api.Frame) string {
	b := []byte{byte(f.From), byte(f.To), byte(f.Kind)}
	n := f.Round
	for range 8 {
		b = append(b, byte(n%256))
		n /= 256
	}
	return string(append(b, f.Data...))
}

// rounds are numbers of rounds: the edges, those of which each byte is another one, those of one bit.
func rounds() []uint64 {
	l := []uint64{0, 1, 2, 255, 256, 65535, 65536, 1<<32 - 1, 1 << 32, 1<<63 - 1, 1 << 63, math.MaxUint64 - 1, math.MaxUint64,
		0x0102030405060708, 0x0807060504030201, 0xf0e1d2c3b4a59687}
	for i := range 64 {
		l = append(l, 1<<i)
	}
	return l
}

// datas are data that may be: of all sizes at the edges, with noughts ahead and behind, that look like a frame.
func datas() []string {
	l := []string{"", "\x00", "\xff", "x", "\x00\x00x\x00", noughts(11), "\x01\x04\x01\x01" + noughts(7), some(1, 100), some(2, 255), some(3, 256)}
	for _, n := range []int{16383, 16384} {
		l = append(l, noughts(n), some(n, n))
	}
	return l
}

// bothWays holds that a frame may be, which bytes it has, and that they tell it again.
func bothWays(t *testing.T, f api.Frame, want string) {
	t.Helper()
	if !frame.May(f) {
		t.Fatalf("%.60v may not be", f)
	}
	if s, e := frame.Encode(f); s != want || e != api.OK {
		t.Fatalf("Encode of %.60v: %.40x (%d), %d; not %.40x (%d)", f, s, len(s), e, want, len(want))
	}
	if back, e := frame.Decode(want); back != f || e != api.OK {
		t.Fatalf("Decode of %.40x (%d): %.60v, %d; not %.60v", want, len(want), back, e, f)
	}
}

// mayNot holds that a frame may not be, and has no bytes.
func mayNot(t *testing.T, f api.Frame) {
	t.Helper()
	if frame.May(f) {
		t.Fatalf("%.60v may be", f)
	}
	if s, e := frame.Encode(f); s != "" || e != api.ErrForm {
		t.Fatalf("Encode of %.60v: %.40x (%d), %d", f, s, len(s), e)
	}
}

// ofNone holds that the bytes are those of no frame.
func ofNone(t *testing.T, s string) {
	t.Helper()
	if f, e := frame.Decode(s); f != (api.Frame{}) || e != api.ErrForm {
		t.Fatalf("Decode of %.40x (%d): %.60v, %d", s, len(s), f, e)
	}
}

func isUser(t *testing.T, address, want int, ok bool) {
	t.Helper()
	if u, fine := frame.User(address); u != want || fine != ok {
		t.Errorf("User of %d: %d, %v; not %d, %v", address, u, fine, want, ok)
	}
}

// P13.1: May, Encode

func TestExamples(t *testing.T) {
	bothWays(t, api.Frame{From: 1, To: 4, Kind: api.Start, Round: 1, Data: ""}, "\x01\x04\x01\x01"+noughts(7))
	ofNone(t, noughts(10))
	ofNone(t, "\x01\x04\x01\x01"+noughts(6))
	ofNone(t, some(1, 10))
}

func TestByHand(t *testing.T) {
	bothWays(t, api.Frame{From: 4, To: 1, Kind: api.Ask, Round: 3, Data: "an onion"}, "\x04\x01\x02\x03"+noughts(7)+"an onion")
	bothWays(t, api.Frame{From: 9, To: 3, Kind: api.Abort, Round: 0x0807060504030201, Data: "xy"}, "\x09\x03\x06\x01\x02\x03\x04\x05\x06\x07\x08xy")
	bothWays(t, api.Frame{From: 2, To: 2, Kind: api.Batch, Round: 1 << 56}, "\x02\x02\x03"+noughts(7)+"\x01")
	bothWays(t, api.Frame{From: 3, To: 9, Kind: api.Answer, Round: math.MaxUint64, Data: "\x00"}, "\x03\x09\x05"+strings.Repeat("\xff", 8)+"\x00")
	mayNot(t, api.Frame{})
}

func TestFramesOfAllAddressesAndKinds(t *testing.T) {
	n := 0
	for from := -1; from <= 12; from++ {
		for to := -1; to <= 12; to++ {
			for kind := -1; kind <= 8; kind++ {
				f := api.Frame{From: from, To: to, Kind: kind, Round: 7, Data: "data"}
				if may(f) {
					bothWays(t, f, bytesOf(f))
					n++
				} else {
					mayNot(t, f)
				}
			}
		}
	}
	if n != 9*9*6 {
		t.Error(n, "frames may be")
	}
}

func TestAddressesAtTheEdges(t *testing.T) {
	for _, x := range []struct {
		address int
		ok      bool
	}{
		{0, false}, {1, true}, {3, true},
		{api.FirstUser, true}, {api.FirstUser + api.MaxUsers - 1, true}, {api.FirstUser + api.MaxUsers, false},
		{-1, false}, {256, false}, {257, false}, {256 + 4, false}, {256 + 9, false}, {-255, false}, {-252, false}, {1<<32 + 4, false},
	} {
		for _, f := range []api.Frame{
			{From: x.address, To: 4, Kind: api.Start, Round: 1},
			{From: 4, To: x.address, Kind: api.Ask, Round: 1, Data: "x"},
			{From: x.address, To: x.address, Kind: api.Abort},
		} {
			if x.ok {
				bothWays(t, f, bytesOf(f))
			} else {
				mayNot(t, f)
			}
		}
	}
}

func TestAddressesAndKindsThatAreFarOff(t *testing.T) {
	for _, n := range far() {
		for _, ok := range []int{1, 3, 4, 9} {
			mayNot(t, api.Frame{From: n, To: ok, Kind: 1})
			mayNot(t, api.Frame{From: ok, To: n, Kind: 1})
			mayNot(t, api.Frame{From: n, To: n, Kind: 6, Data: "x"})
			mayNot(t, api.Frame{From: ok, To: ok, Kind: n})
		}
		mayNot(t, api.Frame{From: n, To: n, Kind: n})
	}
	for n := range 64 {
		for low := range 11 {
			if x := 1<<n + low; !isAddress(x) {
				mayNot(t, api.Frame{From: x, To: 1, Kind: 1})
				mayNot(t, api.Frame{From: 1, To: x, Kind: 1})
			}
			if x := 1<<n + low; !isKind(x) {
				mayNot(t, api.Frame{From: 1, To: 1, Kind: x})
			}
		}
	}
}

func TestKindsAtTheEdges(t *testing.T) {
	for kind, ok := range map[int]bool{0: false, 1: true, 6: true, 7: false, -1: false, 257: false, 256: false, 262: false, -255: false, math.MinInt: false, math.MaxInt: false} {
		for _, data := range []string{"", "x"} {
			f := api.Frame{From: 1, To: 4, Kind: kind, Round: 9, Data: data}
			if ok {
				bothWays(t, f, bytesOf(f))
			} else {
				mayNot(t, f)
			}
		}
	}
}

func TestDataAtTheEdges(t *testing.T) {
	for _, data := range datas() {
		f := api.Frame{From: 3, To: 2, Kind: api.Replies, Round: 5, Data: data}
		bothWays(t, f, "\x03\x02\x04\x05"+noughts(7)+data)
	}
	for _, n := range []int{16385, 16386, 16384 + 11, 16384 + 256, 2 * 16384, 65536, 65536 + 1, 65536 + 16384, 1 << 20, 1<<24 + 1} {
		mayNot(t, api.Frame{From: 3, To: 2, Kind: api.Replies, Round: 5, Data: noughts(n)})
		mayNot(t, api.Frame{From: 1, To: 9, Kind: api.Answer, Round: 5, Data: strings.Repeat("d", n)})
	}
}

func TestDataOfEachSize(t *testing.T) {
	long := some(1, 16390)
	for n := range len(long) {
		f := api.Frame{From: 1, To: 2, Kind: 3, Round: uint64(n), Data: long[:n]}
		if n <= 16384 {
			bothWays(t, f, bytesOf(f))
		} else {
			mayNot(t, f)
			ofNone(t, bytesOf(f))
		}
	}
}

func TestRounds(t *testing.T) {
	for _, n := range rounds() {
		for _, data := range []string{"", "\x00", "data"} {
			f := api.Frame{From: 8, To: 1, Kind: api.Ask, Round: n, Data: data}
			bothWays(t, f, bytesOf(f))
			bothWays(t, f, "\x08\x01\x02"+derive.Round(n)+data)
		}
	}
	for at := range 8 {
		for v := range 256 {
			f := api.Frame{From: 1, To: 7, Kind: api.Answer, Round: uint64(v) << (8 * at)}
			bothWays(t, f, "\x01\x07\x05"+noughts(at)+string([]byte{byte(v)})+noughts(7-at))
		}
	}
}

func TestARoundMakesNoFrameThatMayNotBe(t *testing.T) {
	for _, n := range rounds() {
		mayNot(t, api.Frame{From: 0, To: 4, Kind: 1, Round: n})
		mayNot(t, api.Frame{From: 1, To: 10, Kind: 1, Round: n})
		mayNot(t, api.Frame{From: 1, To: 4, Kind: 7, Round: n})
		mayNot(t, api.Frame{Round: n})
	}
}

func TestFramesOfWhichMoreThanOneFieldMayNotBe(t *testing.T) {
	long := noughts(16385)
	for from, to := range map[int]int{0: 0, 10: 4, 1: 10, -1: 257, 4: 1, 3: 3} {
		for _, kind := range []int{0, 7, -1, 257, 3} {
			for _, data := range []string{"", long} {
				if f := (api.Frame{From: from, To: to, Kind: kind, Data: data}); !may(f) {
					mayNot(t, f)
				}
			}
		}
	}
}

func TestNoTwoFramesHaveTheSameBytes(t *testing.T) {
	seen := map[string]api.Frame{}
	for from := 1; from <= 9; from++ {
		for to := 1; to <= 9; to++ {
			for kind := 1; kind <= 6; kind++ {
				for _, n := range []uint64{0, 1, 2, 1 << 56, 256} {
					for _, data := range []string{"", "\x00", "\x01", "\x00\x00", "x"} {
						f := api.Frame{From: from, To: to, Kind: kind, Round: n, Data: data}
						s, _ := frame.Encode(f)
						if other, ok := seen[s]; ok {
							t.Fatalf("%v, %v: the same bytes", f, other)
						}
						seen[s] = f
					}
				}
			}
		}
	}
}

// P13.1: Decode

func TestDecodeOfTooFewBytes(t *testing.T) {
	whole := "\x01\x04\x01\x01\x02\x03\x04\x05\x06\x07\x08"
	for n := range 11 {
		ofNone(t, whole[:n])
		ofNone(t, whole[11-n:])
		ofNone(t, noughts(n))
		ofNone(t, strings.Repeat("\x01", n))
		ofNone(t, strings.Repeat("\xff", n))
	}
	bothWays(t, api.Frame{From: 1, To: 4, Kind: 1, Round: 0x0807060504030201}, whole)
}

func TestDecodeOfTooManyBytes(t *testing.T) {
	head := "\x01\x04\x01" + noughts(8)
	long := some(1, 16384)
	bothWays(t, api.Frame{From: 1, To: 4, Kind: 1, Data: long}, head+long)
	for _, n := range []int{1, 2, 11, 12, 256, 16384, 65536 - 16384 - 11, 65536 - 11, 65536 - 1, 65536, 1 << 20, 1 << 24} {
		ofNone(t, head+long+noughts(n))
		ofNone(t, head+long+strings.Repeat("x", n))
	}
}

func TestDecodeOfEachHead(t *testing.T) {
	b := []byte(noughts(3) + "\x01\x02\x03\x04\x05\x06\x07\x08")
	for from := range 256 {
		for to := range 256 {
			for kind := range 256 {
				b[0], b[1], b[2] = byte(from), byte(to), byte(kind)
				want := api.Frame{From: from, To: to, Kind: kind, Round: 0x0807060504030201}
				ok := may(want)
				if !ok {
					want = api.Frame{}
				}
				if f, e := frame.Decode(unsafe.String(&b[0], len(b))); f != want || (e == api.OK) != ok || !ok && e != api.ErrForm {
					t.Fatalf("%x: %v, %d", b, f, e)
				}
			}
		}
	}
}

func TestDecodeOfAByteThatMayNotBe(t *testing.T) {
	for _, rest := range []string{noughts(8), some(1, 8), noughts(8) + "data", some(2, 8+16384)} {
		for _, bad := range []string{"\x00", "\x0a", "\x0b", "\x10", "\x80", "\x81", "\x84", "\xfe", "\xff"} {
			ofNone(t, bad+"\x04\x01"+rest)
			ofNone(t, "\x01"+bad+"\x01"+rest)
			ofNone(t, bad+bad+"\x01"+rest)
		}
		for _, bad := range []string{"\x00", "\x07", "\x08", "\x09", "\x10", "\x80", "\x81", "\x86", "\xff"} {
			ofNone(t, "\x01\x04"+bad+rest)
			ofNone(t, "\x00\x04"+bad+rest)
			ofNone(t, bad+bad+bad+rest)
		}
	}
}

func TestDecodeIsOfNothingButFrames(t *testing.T) {
	// what is told has the bytes that were read; all others are those of no frame
	n := 0
	for seed := range 20000 {
		s := []byte(some(seed, 40)[:seed%41])
		for i := range min(3, len(s)) {
			s[i] %= 11
		}
		f, e := frame.Decode(string(s))
		if e != api.OK {
			ofNone(t, string(s))
			if len(s) >= 11 && isAddress(int(s[0])) && isAddress(int(s[1])) && isKind(int(s[2])) {
				t.Fatalf("%x: %d", s, e)
			}
			continue
		}
		n++
		bothWays(t, f, string(s))
		if bytesOf(f) != string(s) || !may(f) {
			t.Fatalf("%x: %v", s, f)
		}
	}
	if n < 1000 {
		t.Error(n, "frames alone")
	}
}

func TestDecodeOfFramesWithAByteMoreOrLess(t *testing.T) {
	for i, data := range datas() {
		f := api.Frame{From: 1 + i%9, To: 9 - i%9, Kind: 1 + i%6, Round: uint64(i) << 40, Data: data}
		s := bytesOf(f)
		if len(data) == 0 {
			ofNone(t, s[:len(s)-1])
		} else {
			f.Data = data[:len(data)-1]
			bothWays(t, f, s[:len(s)-1])
		}
		if len(data) == 16384 {
			ofNone(t, s+"\x00")
		} else {
			f.Data = data + "\x00"
			bothWays(t, f, s+"\x00")
		}
	}
}

// P13.1: User

func TestUsers(t *testing.T) {
	if api.FirstUser != 4 || api.MaxUsers != 6 {
		t.Fatal("the limits")
	}
	for u := range 6 {
		isUser(t, 4+u, u, true)
	}
}

func TestUserOfWhatIsNoUser(t *testing.T) {
	for _, address := range append(far(), 0, 1, 2, 3, 10, 11, 12) {
		isUser(t, address, 0, false)
	}
	for n := range 1000 {
		isUser(t, -n, 0, false)
		isUser(t, 10+n, 0, false)
		isUser(t, math.MinInt+n, 0, false) // 4 less than the first ones would go round
		isUser(t, math.MaxInt-n, 0, false)
	}
	for n := 4; n < 64; n++ {
		for low := range 11 {
			isUser(t, 1<<n+low, 0, false)
			isUser(t, -1<<n-low, 0, false)
		}
	}
}

// Rules that hold everywhere

// apart tells if two texts have no byte in one place of memory.
func apart(a, b string) bool {
	if a == "" || b == "" {
		return true
	}
	x, y := uintptr(unsafe.Pointer(unsafe.StringData(a))), uintptr(unsafe.Pointer(unsafe.StringData(b)))
	return x+uintptr(len(a)) <= y || y+uintptr(len(b)) <= x
}

func TestWhatIsToldIsNewMemory(t *testing.T) {
	for i, data := range datas() {
		in := api.Frame{From: 1, To: 9, Kind: 2, Round: uint64(i), Data: data}
		a, _ := frame.Encode(in)
		b, _ := frame.Encode(in)
		f, _ := frame.Decode(a)
		g, _ := frame.Decode(a)
		l := []string{data, a, b, f.Data, g.Data}
		for j, x := range l {
			for k, y := range l[:j] {
				if !apart(x, y) {
					t.Fatal(i, j, k, "share memory")
				}
			}
		}
	}
}

func TestNothingHandedInIsKeptOrChanged(t *testing.T) {
	for _, n := range []int{0, 1, 2, 100, 16384} {
		want := api.Frame{From: 1, To: 9, Kind: 2, Round: 3, Data: some(n, n)}
		whole := bytesOf(want)
		b := []byte(whole + "spare")
		in := want
		in.Data = unsafe.String(&b[11], n)
		was := in
		s, _ := frame.Encode(in)
		f, _ := frame.Decode(unsafe.String(&b[0], 11+n))
		frame.May(in)
		if in != was || string(b) != whole+"spare" {
			t.Fatal(n, "changed")
		}
		clear(b)
		if s != whole || f != want {
			t.Fatal(n, "shared")
		}
	}
}

func TestRefusedBytesAreAsTheyWere(t *testing.T) {
	for n := range 200 {
		was := some(n, n)
		b := []byte(was + "spare")
		s := unsafe.String(&b[0], n)
		frame.Decode(s)
		frame.Encode(api.Frame{From: n, To: n % 12, Kind: n % 8, Data: s})
		frame.May(api.Frame{From: n, To: n % 12, Kind: n % 8, Data: s})
		if string(b) != was+"spare" {
			t.Fatal(n, "changed")
		}
	}
	long := []byte(noughts(16385) + "spare")
	frame.Encode(api.Frame{From: 1, To: 1, Kind: 1, Data: unsafe.String(&long[0], 16385)})
	if string(long) != noughts(16385)+"spare" {
		t.Fatal("changed")
	}
}

func TestAnswersHangOnTheArgumentsAlone(t *testing.T) {
	for i := range 200 {
		frame.Encode(api.Frame{From: i, To: i % 10, Kind: i % 7, Round: uint64(i), Data: some(i, i)})
		frame.Decode(some(i, i))
		frame.Decode(string([]byte{byte(i), 1, 1}) + noughts(8))
		frame.User(i)
		bothWays(t, api.Frame{From: 1, To: 4, Kind: 1, Round: 1}, "\x01\x04\x01\x01"+noughts(7))
		mayNot(t, api.Frame{From: 1, To: 4, Kind: 7, Round: 1})
		ofNone(t, noughts(11))
		isUser(t, 5, 1, true)
		isUser(t, 3, 0, false)
	}
}
