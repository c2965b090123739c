package ladder

import "cresset/field"

const curve = 121665 // (A - 2)/4 for the coefficient A of the curve, 486662

// rung is how far the ladder has been climbed. a/b and c/d belong to two
// multiples of a point, one apart: those of the scalar's bits so far.
type rung struct{ a, b, c, d field.Num }

// climbed is what a scalar and a number come to.
func climbed(k scalar, u field.Num) field.Num {
	one := field.Small(1)
	now := rung{a: one, c: u, d: one}
	for n := topBit; n >= 0; n-- {
		bit := k.bit(n)
		now = now.exchanged(bit).step(u).exchanged(bit)
	}
	return now.a.Mul(now.b.Inv())
}

// exchanged is the rung with its two pairs in each other's place if bit is 1.
// It reckons where it could branch, so that the time it takes does not tell
// what bit is.
func (now rung) exchanged(bit field.Num) rung {
	ac, bd := bit.Mul(now.c.Sub(now.a)), bit.Mul(now.d.Sub(now.b))
	return rung{now.a.Add(ac), now.b.Add(bd), now.c.Sub(ac), now.d.Sub(bd)}
}

// step doubles the multiple of a/b, and puts the sum of both in the place of
// c/d. The letters are those of the document.
func (now rung) step(u field.Num) rung {
	m, n := now.a.Add(now.b), now.a.Sub(now.b)
	o, q := m.Mul(m), n.Mul(n)
	r := o.Sub(q)
	s, t := now.c.Sub(now.d).Mul(m), now.c.Add(now.d).Mul(n)
	sum, difference := t.Add(s), t.Sub(s)
	return rung{
		a: o.Mul(q),
		b: r.Mul(o.Add(field.Small(curve).Mul(r))),
		c: sum.Mul(sum),
		d: u.Mul(difference.Mul(difference)),
	}
}
