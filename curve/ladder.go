package curve

import "billet/field"

// ladder is two points, x2/z2 and x3/z3, that lie one point apart all the way.
type ladder struct {
	x2, z2, x3, z3 field.Elem
}

// step doubles the first point and makes the second one the sum of both.
// point is what they lie apart by.
func (l ladder) step(point field.Elem) ladder {
	a, b := field.Add(l.x2, l.z2), field.Sub(l.x2, l.z2)
	aa, bb := field.Mul(a, a), field.Mul(b, b)
	e := field.Sub(aa, bb)
	da := field.Mul(field.Sub(l.x3, l.z3), a)
	cb := field.Mul(field.Add(l.x3, l.z3), b)
	sum, less := field.Add(da, cb), field.Sub(da, cb)
	return ladder{
		x2: field.Mul(aa, bb),
		z2: field.Mul(e, field.Add(aa, field.Mul(field.Num(121665), e))),
		x3: field.Mul(sum, sum),
		z3: field.Mul(point, less, less),
	}
}

// swapped is the ladder with its points in each other's place, where bit is 1.
// The bit is a secret's: Pick takes it without a branch, which would show it in time.
func swapped(l ladder, bit int) ladder {
	return ladder{
		x2: field.Pick(bit, l.x2, l.x3),
		z2: field.Pick(bit, l.z2, l.z3),
		x3: field.Pick(bit, l.x3, l.x2),
		z3: field.Pick(bit, l.z3, l.z2),
	}
}
