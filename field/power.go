package field

// squared is a squared n times: a to the power 2^n.
func (a Num) squared(n int) Num {
	for range n {
		a = a.Mul(a)
	}
	return a
}

// ones is a to the power 2^250 - 1, the 250 bits of which are 1. All powers
// that are needed begin with these bits. Those of a power of n such bits,
// squared m times, and of a power of m such bits make n + m.
func (a Num) ones() Num {
	two := a.squared(1).Mul(a)
	four := two.squared(2).Mul(two)
	five := four.squared(1).Mul(a)
	ten := five.squared(5).Mul(five)
	twenty := ten.squared(10).Mul(ten)
	forty := twenty.squared(20).Mul(twenty)
	fifty := forty.squared(10).Mul(ten)
	hundred := fifty.squared(50).Mul(fifty)
	twoHundred := hundred.squared(100).Mul(hundred)
	return twoHundred.squared(50).Mul(fifty)
}

// rootOfMinusOne is 2 to the power (p - 1)/4, which is 2^253 - 5.
func rootOfMinusOne() Num {
	return Small(2).ones().squared(3).Mul(Small(8))
}

// even is a or 0 - a, whichever has an even encoding.
func (a Num) even() Num {
	if a.limbs[0]&1 == 1 {
		return Num{}.Sub(a)
	}
	return a
}
