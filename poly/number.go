package poly

// Five limbs of 26 bits have 130 bits: what leaves them at the top is a
// multiple of 2^130, which is 5 modulo p, and comes back at the bottom.
const (
	limbs    = 5
	limbBits = 26
	limbMask = 1<<limbBits - 1
	wrap     = 5
)

// number is an integer in limbs, the lowest first. A limb has room for more
// than its 26 bits, so that sums and products need no carries at once.
type number [limbs]uint64

// encoded is the bytes of an integer, little-endian: a piece and one more.
type encoded [pieceBytes + 1]byte

// number is the integer that b encodes. The 26 bits of a limb lie in four
// bytes, wherever they begin.
func (b encoded) number() number {
	var a number
	for i := range limbs {
		at := limbBits * i
		for k := range 4 {
			a[i] |= uint64(b[at/8+k]) << (8 * k)
		}
		a[i] = a[i] >> (at % 8) & limbMask
	}
	return a
}

// low is the encoding of the low 128 bits of a.
func (a number) low() [pieceBytes]byte {
	var out [pieceBytes]byte
	a, _ = a.spread()
	for k := range pieceBytes {
		i, at := 8*k/limbBits, 8*k%limbBits
		v := a[i] >> at
		if i+1 < limbs {
			v |= a[i+1] << (limbBits - at)
		}
		out[k] = byte(v)
	}
	return out
}

// plus is a + b, limb by limb; the sums are left to be carried.
func (a number) plus(b number) number {
	for i := range limbs {
		a[i] += b[i]
	}
	return a
}

// times is a number below 2^130 that is a r modulo p, perhaps not the least
// one. The limbs of r have 26 bits and those of a little more than 27 at most,
// and so the sums stay below 2^58. The first carry leaves up to 2^34 in the
// lowest limb, and so a number below 2^130 + 2^34. The second one adds 5 only to
// what passed 2^130, which is small, and leaves 4 at most above the lowest
// limb's 26 bits.
func (a number) times(r number) number {
	var wide [2 * limbs]uint64
	for i := range limbs {
		for j := range limbs {
			wide[i+j] += a[i] * r[j]
		}
	}
	for i := range limbs {
		a[i] = wide[i] + wrap*wide[limbs+i]
	}
	return a.carried().carried()
}

// spread is a with 26 bits in every limb, and what leaves it at the top.
func (a number) spread() (number, uint64) {
	var over uint64
	for i := range limbs {
		a[i] += over
		over = a[i] >> limbBits
		a[i] &= limbMask
	}
	return a, over
}

// carried is a with its limbs spread, and what leaves them brought back modulo
// p, which may leave the lowest limb with more than 26 bits.
func (a number) carried() number {
	a, over := a.spread()
	a[0] += wrap * over
	return a
}

// reduced is the least number that is a modulo p, for what times answers: that
// is below 2^130. It is p or more exactly if a + 5 reaches 2^130, and then
// a + 5 without its top is a - p. All of it is done whatever a is, so that the
// time it takes does not tell.
func (a number) reduced() number {
	_, over := a.plus(number{wrap}).spread()
	a[0] += wrap * over
	a, _ = a.spread()
	return a
}
