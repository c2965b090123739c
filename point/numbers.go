package point

import "cresset/field"

// coefficientBytes is the document's d, -121665 times the inverse of 121666. It
// is written out because each sum would have to wait for the inverse.
const coefficientBytes = "\xa3\x78\x59\x13\xca\x4d\xeb\x75\xab\xd8\x41\x41\x4d\x0a\x70\x00" +
	"\x98\xe8\x79\x77\x79\x40\xc7\x8c\x73\xfe\x6f\x2b\xee\x6c\x03\x52"

// numbers is the four numbers of a point, as the document has them.
type numbers struct{ x, y, z, t field.Num }

// numbers is the four numbers of p.
func (p Point) numbers() numbers {
	one := field.Small(1)
	return numbers{p.x, p.y.Add(one), p.z.Add(one), p.t}
}

// point is the point of four numbers.
func (n numbers) point() Point {
	one := field.Small(1)
	return Point{n.x, n.y.Sub(one), n.z.Sub(one), n.t}
}

// sum is the numbers of a sum. It is right for any two points, also for equal
// ones. The letters are those of the document.
func (n numbers) sum(q numbers) numbers {
	a := n.y.Sub(n.x).Mul(q.y.Sub(q.x))
	b := n.y.Add(n.x).Mul(q.y.Add(q.x))
	d := coefficient()
	k := d.Add(d)
	c := n.t.Mul(k).Mul(q.t)
	m := n.z.Add(n.z).Mul(q.z)
	e, f, g, h := b.Sub(a), m.Sub(c), m.Add(c), b.Add(a)
	return numbers{e.Mul(f), g.Mul(h), f.Mul(g), e.Mul(h)}
}

// or is n if bit is 0, and q if it is 1. It reckons where it could branch, so
// that the time it takes does not tell what bit is.
func (n numbers) or(q numbers, bit field.Num) numbers {
	return numbers{or(n.x, q.x, bit), or(n.y, q.y, bit), or(n.z, q.z, bit), or(n.t, q.t, bit)}
}

// or is the same of two single numbers.
func or(a, b, bit field.Num) field.Num { return a.Add(bit.Mul(b.Sub(a))) }

// coefficient is the document's d.
func coefficient() field.Num {
	d, _ := field.Of(coefficientBytes)
	return d
}

// heightOf is y of the point with the bytes s, and whether they encode it as
// it is and not with p more. The sign counts to field.Of, and so goes first.
func heightOf(s string) (field.Num, bool) {
	b := []byte(s)
	b[numBytes-1] &^= 1 << signBit
	y, _ := field.Of(string(b))
	return y, y.Bytes() == string(b)
}

// rootAt is the even x of the two points with this y, if there are any.
func rootAt(y field.Num) (field.Num, bool) {
	one, square := field.Small(1), y.Mul(y)
	below := coefficient().Mul(square).Add(one)
	return square.Sub(one).Mul(below.Inv()).Root()
}
