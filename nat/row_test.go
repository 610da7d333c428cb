package nat

import (
	"slices"
	"testing"
)

// made is what each call answers where it could give its argument's own limbs back.
func made(a Nat) []Nat {
	d, _ := Sub(a, Nat{})
	p, _ := Pow(a, 1)
	return []Nat{Add(a), Add(a, Nat{}), Add(Nat{}, a), Mul(a), Mul(a, Of(1)), Mul(Of(1), a), d, p}
}

func TestLimbsAreCopied(t *testing.T) {
	for _, a := range []Nat{Of(7), Bytes("\x01\x02\x03\x04\x05\x06\x07\x08\x09"), Mul(Of(1<<63), Of(1<<63), Of(1<<63))} {
		was := slices.Clone(a.limbs)
		l := made(a)
		for i, x := range l {
			if !slices.Equal(x.limbs, was) {
				t.Error("another number", i)
			}
			room := x.limbs[:cap(x.limbs)]
			for k := range room {
				room[k] = uint64(i)
			}
			if !slices.Equal(a.limbs, was) {
				t.Error("shared", i)
			}
		}
		// nor is any of them another one's
		for i, x := range l {
			if slices.ContainsFunc(x.limbs[:cap(x.limbs)], func(n uint64) bool { return n != uint64(i) }) {
				t.Error("shared among them", i)
			}
		}
	}
}

func TestEachNumberHasOneRow(t *testing.T) {
	a := Bytes("\x00\x00\x00\x00\x00\x00\x00\x00\x01")
	d, _ := Sub(a, a)
	n, _ := Sub(a, Of(1))
	p, _ := Pow(Nat{}, 3)
	for i, x := range []Nat{Of(0), Bytes(""), Bytes("\x00\x00"), Add(), Add(Nat{}), Mul(Nat{}), Mul(a, Nat{}), Mul(Nat{}, a), d, p} {
		if x.limbs != nil {
			t.Error("0", i, x.limbs)
		}
	}
	for i, x := range []Nat{Of(3), Bytes("\x03" + string(make([]byte, 40))), Mul(Of(3), Of(1)), Add(Of(1), Of(2)), n, a} {
		if len(x.limbs) == 0 || x.limbs[len(x.limbs)-1] == 0 {
			t.Error("a nought ahead", i, x.limbs)
		}
	}
}
