package field

import "math/bits"

// Four limbs of 64 bits have one bit more than a number needs. What lies at
// 2^255 is 19 modulo p, and what lies at 2^256 is 38.
const (
	limbCount = 4
	limbBytes = 8
	topBit    = 63
	below255  = 1<<topBit - 1
	wrapAt255 = 19
	wrapAt256 = 2 * wrapAt255
)

// limbs is an integer below 2^256, the lowest 64 bits first. No step on limbs
// hangs on what the integer is, so that the time it takes does not tell.
type limbs [limbCount]uint64

// prime is p.
var prime = limbs{1<<64 - wrapAt255, 1<<64 - 1, 1<<64 - 1, below255}

// plus is a + b without what leaves it at the top.
func (a limbs) plus(b limbs) limbs {
	var over uint64
	for i := range a {
		a[i], over = bits.Add64(a[i], b[i], over)
	}
	return a
}

// plusWord is a + v without what leaves it at the top.
func (a limbs) plusWord(v uint64) limbs {
	for i := range a {
		a[i], v = bits.Add64(a[i], v, 0)
	}
	return a
}

// minus is a - b, for b that is not greater.
func (a limbs) minus(b limbs) limbs {
	var under uint64
	for i := range a {
		a[i], under = bits.Sub64(a[i], b[i], under)
	}
	return a
}

// plusTimes is a + b v, and what leaves it at the top.
func (a limbs) plusTimes(b limbs, v uint64) (limbs, uint64) {
	var over uint64
	for i := range a {
		a[i], over = sumAndProduct(a[i], over, b[i], v)
	}
	return a, over
}

// times is a b, the low half and the high one.
func (a limbs) times(b limbs) (limbs, limbs) {
	var wide [2 * limbCount]uint64
	for i, v := range b {
		var over uint64
		for j, u := range a {
			wide[i+j], over = sumAndProduct(wide[i+j], over, u, v)
		}
		wide[i+limbCount] = over
	}
	var low, high limbs
	copy(low[:], wide[:limbCount])
	copy(high[:], wide[limbCount:])
	return low, high
}

// sumAndProduct is a + b + c d, the low word and the high one. However great
// the four are, there is room for it.
func sumAndProduct(a, b, c, d uint64) (uint64, uint64) {
	high, low := bits.Mul64(c, d)
	low, over := bits.Add64(low, a, 0)
	high += over
	low, over = bits.Add64(low, b, 0)
	return low, high + over
}

// reduced is the least number that is a + over 2^256 modulo p, for a small
// over. If 2^255 goes into it n times and leaves t, p goes n times and leaves
// t + 19 n, which may be p or more still: exactly if t + 19 (n + 1) reaches
// 2^255, and then p goes once more.
func reduced(a limbs, over uint64) Num {
	n := over<<1 | a[limbCount-1]>>topBit
	a[limbCount-1] &= below255
	n += a.plusWord(wrapAt255 * (n + 1))[limbCount-1] >> topBit
	a = a.plusWord(wrapAt255 * n)
	a[limbCount-1] &= below255
	return Num{a}
}
