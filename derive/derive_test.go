package derive_test

import (
	"crypto/sha256"
	"encoding/binary"
	"encoding/hex"
	"slices"
	"strings"
	"testing"

	"billet/api"
	"billet/derive"
	"billet/sha"
)

// rising is n bytes, each one greater than the one ahead of it by 7, round at 256.
func rising(n int) string {
	b := make([]byte, n)
	for i := range b {
		b[i] = byte(7*i + 3)
	}
	return string(b)
}

// reference is the pack by Go's own library.
func reference(parts ...string) string {
	var b []byte
	for _, p := range parts {
		b = binary.LittleEndian.AppendUint32(b, uint32(len(p)))
		b = append(b, p...)
	}
	return string(b)
}

// unpacked is the row of which a pack was made; false: of none.
func unpacked(pack string) ([]string, bool) {
	var parts []string
	for len(pack) > 0 {
		if len(pack) < 4 {
			return nil, false
		}
		n := int(binary.LittleEndian.Uint32([]byte(pack)))
		pack = pack[4:]
		if len(pack) < n {
			return nil, false
		}
		parts = append(parts, pack[:n])
		pack = pack[n:]
	}
	return parts, true
}

// with is the row of a label and the parts behind it.
func with(label string, parts []string) []string {
	return append([]string{label}, parts...)
}

// rows is all rows of at most n of the texts.
func rows(n int, texts ...string) [][]string {
	all := [][]string{nil}
	for from := 0; n > 0; n-- {
		to := len(all)
		for _, row := range all[from:to] {
			for _, text := range texts {
				all = append(all, append(slices.Clone(row), text))
			}
		}
		from = to
	}
	return all
}

// cuts is all rows of parts, none of them empty, that make the text when laid one behind the other.
func cuts(text string) [][]string {
	if text == "" {
		return [][]string{nil}
	}
	var all [][]string
	for n := 1; n <= len(text); n++ {
		for _, rest := range cuts(text[n:]) {
			all = append(all, with(text[:n], rest))
		}
	}
	return all
}

// check holds the pack, the key and the ID of a row against the library's.
func check(t *testing.T, row []string) {
	t.Helper()
	if derive.Pack(row...) != reference(row...) {
		t.Errorf("Pack of %d parts: %.40x, not %.40x", len(row), derive.Pack(row...), reference(row...))
	}
	if len(row) == 0 {
		return
	}
	want := sha256.Sum256([]byte(reference(row...)))
	if got := derive.Key(row[0], row[1:]...); got != want {
		t.Errorf("Key of %d parts: %x, not %x", len(row)-1, got, want)
	}
	if got := derive.ID(row[0], row[1:]...); string(got[:]) != string(want[:16]) {
		t.Errorf("ID of %d parts: %x, not %x", len(row)-1, got, want[:16])
	}
}

// told holds bytes against hexadecimal digits.
func told(t *testing.T, what any, got, want string) {
	t.Helper()
	if hex.EncodeToString([]byte(got)) != want {
		t.Errorf("%v: %x, not %s", what, got, want)
	}
}

// unlike fails where two of the rows have one pack, or one key, one ID, their first part taken as the label.
func unlike(t *testing.T, all [][]string) {
	t.Helper()
	packs, keys, ids := map[string][]string{}, map[api.Key][]string{}, map[api.ID][]string{}
	for _, row := range all {
		if other, ok := packs[derive.Pack(row...)]; ok {
			t.Errorf("one pack: %q, %q", row, other)
		}
		packs[derive.Pack(row...)] = row
		if len(row) == 0 {
			continue
		}
		k, id := derive.Key(row[0], row[1:]...), derive.ID(row[0], row[1:]...)
		if other, ok := keys[k]; ok {
			t.Errorf("one key: %q, %q", row, other)
		}
		if other, ok := ids[id]; ok {
			t.Errorf("one ID: %q, %q", row, other)
		}
		keys[k], ids[id] = row, row
	}
}

// P7.1: Pack

func TestExamples(t *testing.T) {
	told(t, "Pack", derive.Pack("", "a"), "000000000100000061")
	n := derive.Nonce(2, 1)
	told(t, "Nonce", string(n[:]), "020000000100000000000000")
}

func TestPack(t *testing.T) {
	for _, x := range []struct {
		parts []string
		want  string
	}{
		{nil, ""},
		{[]string{}, ""},
		{[]string{""}, "00000000"},
		{[]string{"", ""}, "0000000000000000"},
		{[]string{"", "", ""}, "000000000000000000000000"},
		{[]string{"a"}, "0100000061"},
		{[]string{"a", ""}, "010000006100000000"},
		{[]string{"a", "b"}, "01000000610100000062"},
		{[]string{"ab"}, "020000006162"},
		{[]string{"ab", "", "c"}, "020000006162000000000100000063"},
		{[]string{"\x00"}, "0100000000"},
		{[]string{"\xff\x80", "\x00\x00\x00\x00"}, "02000000ff800400000000000000"},
		{[]string{"\u00e9"}, "02000000c3a9"}, // bytes are counted, not runes
	} {
		told(t, x.parts, derive.Pack(x.parts...), x.want)
	}
}

func TestPackOfLongParts(t *testing.T) {
	// lengths about those that want one byte more
	for _, x := range []struct {
		n      int
		length string
	}{
		{255, "\xff\x00\x00\x00"},
		{256, "\x00\x01\x00\x00"},
		{257, "\x01\x01\x00\x00"},
		{65535, "\xff\xff\x00\x00"},
		{65536, "\x00\x00\x01\x00"},
		{65537, "\x01\x00\x01\x00"},
		{1<<24 - 1, "\xff\xff\xff\x00"},
		{1 << 24, "\x00\x00\x00\x01"},
		{0x01020304, "\x04\x03\x02\x01"},
	} {
		text := rising(x.n)
		if derive.Pack(text) != x.length+text {
			t.Error("alone", x.n)
		}
		if derive.Pack("a", text, "", "b") != "\x01\x00\x00\x00a"+x.length+text+"\x00\x00\x00\x00\x01\x00\x00\x00b" {
			t.Error("among others", x.n)
		}
	}
}

func TestPackOfAllLengths(t *testing.T) {
	for n := range 600 {
		check(t, []string{rising(n)})
		check(t, []string{rising(n), "", rising(599 - n)})
	}
}

func TestPackOfAllBytes(t *testing.T) {
	// bytes that are no runes are texts as well
	for b := range 256 {
		one := string([]byte{byte(b)})
		check(t, []string{one, strings.Repeat(one, 5)})
	}
}

func TestPackOfManyParts(t *testing.T) {
	var row []string
	for n := range 300 {
		row = append(row, rising(n))
		check(t, row)
	}
	check(t, make([]string, 1<<16))
	check(t, slices.Repeat([]string{"a", "", "bc"}, 1<<14))
}

// P7.1: Key and ID

// The digests are OpenSSL's.
func TestKey(t *testing.T) {
	for _, x := range []struct {
		label string
		parts []string
		want  string
	}{
		{"", nil, "df3f619804a92fdb4057192dc43dd748ea778adc52bc498ce80524c014b81119"},
		{"a", nil, "f9f2eff042fb3ba78744d4688e6cd19f9055d8d08fb3d72170e8aa9e6c5b7592"},
		{"label", nil, "71b14acc4493bc50decefb923f4306682cf3074a0e40acfeb525a00b54a40975"},
		{"label", []string{""}, "2e58e808f6bb8a0d4bf4571586c565be6508bf53cc56f371829edba7d8e84819"},
		{"label", []string{"a"}, "6e64e209719aed5d1c0ebf4ad1c905495f6c7cd7a7e9af218b59216b88250416"},
		{"label", []string{"a", "b"}, "68c7251181447fa58be451dfd4528e74e31ce11b0e3482b131199b5dc24ce1de"},
		{"label", []string{"ab"}, "71eef5eb7d3c6ad03c5df32ae79ac3b111efc517ed43c53381445b5c81ebecb4"},
		{"", []string{"label", "ab"}, "85669c86fec0f9e57ccce7edd7b199095d649fa16cca752eaa66bf8cb9d2ec10"},
		{"label", []string{rising(255)}, "e2bf8995da36696b4ad3bb633d5a258d591f38f892b84212c03cb76f6a8559cd"},
		{"label", []string{rising(256)}, "d1d320716f2134675fbcab75acd7a00492d735309b3af4121ce803b80c92ba68"},
		{"label", []string{rising(257)}, "107d5f5397d46bfeeccac30626bd04b6680a3173eb2432dc38a5d57ea7092b07"},
		{"label", []string{rising(65535)}, "fb1559c15b0bd93196e2766d6e0b74220b689057cef3d33c0263831e63b9442b"},
		{"label", []string{rising(65536)}, "ef3463bac2b04bbc7024dc131629cf9e9ad786ac35e6d5abeff2bade8e8a7b69"},
		{"label", []string{rising(65537)}, "317a46ab9d859e71de8e009c0e5db9501578a3d0153c71fa13029ceea454b183"},
		{rising(256), nil, "26eaa642bc187c7c700ec8efd08e092357d30b6d98e4a2b6e30be329f14b889b"},
		{"\xff\x00", []string{"\x80", "", "\x00\x00\x00\x00"}, "5965cc0248eb300cf9c63c8e3d0d0a23054f8056106dad9d853aab512622aece"},
	} {
		k, id := derive.Key(x.label, x.parts...), derive.ID(x.label, x.parts...)
		told(t, "Key", string(k[:]), x.want)
		told(t, "ID", string(id[:]), x.want[:32])
	}
}

func TestKeyIsTheSumOfThePack(t *testing.T) {
	for _, row := range rows(4, "", "\x00", "a", "ab", rising(255), rising(256)) {
		for _, label := range []string{"", "a", "label", rising(257)} {
			k, id := derive.Key(label, row...), derive.ID(label, row...)
			if k != sha.Sum(derive.Pack(with(label, row)...)) {
				t.Errorf("Key of %.20q, %.20q", label, row)
			}
			if id != api.ID(k[:16]) {
				t.Errorf("ID of %.20q, %.20q", label, row)
			}
		}
	}
}

func TestLabelAheadOfNoParts(t *testing.T) {
	// no parts are not one part of no byte
	for _, label := range []string{"", "a", "label", rising(255), rising(256)} {
		k := derive.Key(label)
		if k != derive.Key(label, []string{}...) || k != sha.Sum(derive.Pack(label)) {
			t.Errorf("%.20q", label)
		}
		if k == derive.Key(label, "") || k == derive.Key("", label) || k == sha.Sum(label) {
			t.Errorf("alike: %.20q", label)
		}
	}
}

// P7.2

func TestRound(t *testing.T) {
	for _, x := range []struct {
		n    uint64
		want string
	}{
		{0, "0000000000000000"},
		{1, "0100000000000000"},
		{255, "ff00000000000000"},
		{256, "0001000000000000"},
		{257, "0101000000000000"},
		{1<<32 - 1, "ffffffff00000000"},
		{1 << 32, "0000000001000000"},
		{1<<63 - 1, "ffffffffffffff7f"},
		{1 << 63, "0000000000000080"},
		{0x0807060504030201, "0102030405060708"},
		{1<<64 - 1, "ffffffffffffffff"},
	} {
		told(t, x.n, derive.Round(x.n), x.want)
	}
}

func TestNonce(t *testing.T) {
	for _, x := range []struct {
		what  uint32
		round uint64
		want  string
	}{
		{0, 0, "000000000000000000000000"},
		{1, 0, "010000000000000000000000"},
		{0, 1, "000000000100000000000000"},
		{1, 1, "010000000100000000000000"},
		{256, 0, "000100000000000000000000"},
		{0, 256, "000000000001000000000000"},
		{256, 256, "000100000001000000000000"},
		{1 << 31, 1 << 63, "000000800000000000000080"},
		{0x04030201, 0x0c0b0a0908070605, "0102030405060708090a0b0c"},
		{1<<32 - 1, 0, "ffffffff0000000000000000"},
		{0, 1<<64 - 1, "00000000ffffffffffffffff"},
		{1<<32 - 1, 1<<64 - 1, "ffffffffffffffffffffffff"},
		{api.ForRequest, 7, "010000000700000000000000"},
		{api.ForReply, 7, "020000000700000000000000"},
		{api.ForTalk, 7, "030000000700000000000000"},
	} {
		n := derive.Nonce(x.what, x.round)
		told(t, x, string(n[:]), x.want)
		if string(n[4:]) != derive.Round(x.round) {
			t.Error("round", x)
		}
	}
}

// numbers are 0, the greatest, and each power of 2 with the numbers on both sides of it.
func numbers() []uint64 {
	all := []uint64{0, 1<<64 - 1}
	for i := range 64 {
		all = append(all, 1<<i-1, 1<<i, 1<<i+1)
	}
	slices.Sort(all)
	return slices.Compact(all)
}

func TestRoundAndNonceAgainstTheLibrary(t *testing.T) {
	for _, n := range numbers() {
		round := binary.LittleEndian.AppendUint64(nil, n)
		if derive.Round(n) != string(round) {
			t.Errorf("Round of %x: %x", n, derive.Round(n))
		}
		for _, m := range numbers() {
			want := append(binary.LittleEndian.AppendUint32(nil, uint32(m)), round...)
			if derive.Nonce(uint32(m), n) != api.Nonce(want) {
				t.Errorf("Nonce of %x, %x: %x", uint32(m), n, derive.Nonce(uint32(m), n))
			}
		}
	}
}

// P7.3

func TestPacksCanBeTakenApart(t *testing.T) {
	// what can be taken apart again has but one row
	long := []string{rising(255), rising(256), rising(257), rising(65536)}
	for _, row := range append(rows(5, "", "a", "\x00\x00\x00\x00", "\x01\x00\x00\x00a"), rows(3, long...)...) {
		if got, ok := unpacked(derive.Pack(row...)); !ok || !slices.Equal(got, row) {
			t.Errorf("%.20q: %.20q", row, got)
		}
	}
}

func TestUnlikeRows(t *testing.T) {
	// parts that look like lengths, and like packs, are among them
	unlike(t, rows(4, "", "\x00", "\x00\x00\x00\x00", "\x01\x00\x00\x00", "a", "\x01\x00\x00\x00a", "\x00\x00\x00\x00\x01\x00\x00\x00a"))
}

func TestRowsThatAreCutElsewhere(t *testing.T) {
	for _, text := range []string{"abcdefgh", "aaaaaaaa", strings.Repeat("\x00", 9), "\x01\x00\x00\x00a\x00\x00\x00\x00"} {
		all := cuts(text)
		if len(all) != 1<<(len(text)-1) {
			t.Fatal(len(all))
		}
		for _, row := range slices.Clone(all) {
			for i := range len(row) + 1 {
				all = append(all, slices.Insert(slices.Clone(row), i, ""))
			}
		}
		unlike(t, all)
	}
	long := rising(514)
	unlike(t, [][]string{{long}, {long[:255], long[255:]}, {long[:256], long[256:]}, {long[:257], long[257:]}, {long, ""}, {"", long}, {"", long[:256], long[256:]}})
}

func TestRowsOfNoByte(t *testing.T) {
	var all [][]string
	for n := range 300 {
		all = append(all, make([]string, n), []string{strings.Repeat("\x00", n+1)})
	}
	unlike(t, all)
}

func TestPacksOfPacks(t *testing.T) {
	unlike(t, [][]string{{"a", "b"}, {derive.Pack("a", "b")}, {derive.Pack("a"), "b"}, {"a", derive.Pack("b")}, {derive.Pack("a"), derive.Pack("b")}, {derive.Pack(derive.Pack("a", "b"))}, {reference("a") + "b"}})
}

func TestLabelsAndPartsAreParted(t *testing.T) {
	for _, parts := range rows(3, "", "a", rising(256)) {
		seen := map[api.Key]string{}
		for _, label := range []string{"", "a", "b", "aa", "\x00", "label", "other", rising(256)} {
			k := derive.Key(label, parts...)
			if other, ok := seen[k]; ok {
				t.Errorf("%.20q, %.20q: %.20q", label, other, parts)
			}
			seen[k] = label
		}
	}
	if derive.Key("a", "b", "c") == derive.Key("a", "c", "b") || derive.Key("a", "b") == derive.Key("b", "a") {
		t.Error("order")
	}
}

func TestUnlikePairs(t *testing.T) {
	type pair struct {
		what  uint32
		round uint64
	}
	pairs := map[pair]bool{}
	nonces := map[api.Nonce]pair{}
	rounds := map[string]uint64{}
	for _, n := range numbers() {
		if other, ok := rounds[derive.Round(n)]; ok {
			t.Error("one round", n, other)
		}
		rounds[derive.Round(n)] = n
		for _, m := range numbers() {
			p := pair{uint32(m), n}
			if pairs[p] {
				continue
			}
			pairs[p] = true
			k := derive.Nonce(p.what, p.round)
			if other, ok := nonces[k]; ok {
				t.Error("one nonce", p, other)
			}
			nonces[k] = p
		}
	}
}

func TestPairsThatDifferInOneBit(t *testing.T) {
	for _, round := range []uint64{0, 1, 256, 1<<64 - 1} {
		for _, what := range []uint32{0, 1, 256, 1<<32 - 1} {
			n := derive.Nonce(what, round)
			for i := range 32 {
				if derive.Nonce(what^1<<i, round) == n {
					t.Error("what alone", what, round, i)
				}
			}
			for i := range 64 {
				if derive.Nonce(what, round^1<<i) == n {
					t.Error("round alone", what, round, i)
				}
			}
		}
	}
}

// Rules that hold everywhere

func TestPartsAreNotChanged(t *testing.T) {
	row := []string{"a", rising(256), "", "b", "spare", "room"}
	was := slices.Clone(row)
	derive.Pack(row[:4]...)
	derive.Key("label", row[:4]...)
	derive.ID("label", row[:4]...)
	derive.Key("label", row[:0]...)
	derive.ID("label", row[:0]...)
	if !slices.Equal(row, was) {
		t.Errorf("changed: %.20q", row)
	}
}

func TestNothingIsKept(t *testing.T) {
	// one call in another's wake answers what it answered ahead of it, whatever becomes of the row
	row := []string{"a", "b"}
	pack, key, id := derive.Pack(row...), derive.Key("label", row...), derive.ID("label", row...)
	row[0], row[1] = "c", rising(300)
	check(t, row)
	if pack != reference("a", "b") {
		t.Error("the pack hangs on the row")
	}
	if derive.Pack("a", "b") != pack || derive.Key("label", "a", "b") != key || derive.ID("label", "a", "b") != id {
		t.Error("another answer")
	}
}
