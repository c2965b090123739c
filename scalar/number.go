package scalar

// Seven limbs of 36 bits have 252 bits, so that the top limb, the eighth, tells
// how many times 2^252 goes into an integer.
const (
	limbs    = 8
	limbBits = 36
	limbMask = 1<<limbBits - 1
	top      = limbs - 1
)

// number is an integer in limbs, the lowest first. A limb has room for more
// than its 36 bits and may be below 0, until it is carried. No step on numbers
// hangs on what the integer is, so that the time it takes does not tell.
type number [limbs]int64

// order is L.
var order = number{0xa5cf5d3ed, 0xd65812631, 0x9dea2f79c, 0x14def, 0, 0, 0, 1}

// numberOf is the integer that s encodes, modulo L.
func numberOf(s string) number { return number{1}.scaled(s) }

// scaled is a times the integer that s encodes, modulo L, for a below L. The
// bytes of s come in from the highest one down: 256 times a number below L and
// 255 times another one are together below 511 L.
func (a number) scaled(s string) number {
	var sum number
	for i := len(s) - 1; i >= 0; i-- {
		sum = sum.times(1 << 8).plus(a.times(int64(s[i]))).reduced()
	}
	return sum
}

// plus is a + b, limb by limb; the sums are left to be carried.
func (a number) plus(b number) number {
	for i := range a {
		a[i] += b[i]
	}
	return a
}

// times is a v, limb by limb; the products are left to be carried.
func (a number) times(v int64) number {
	for i := range a {
		a[i] *= v
	}
	return a
}

// carried is a with 36 bits in every limb but the top one, which is below 0 if
// a is.
func (a number) carried() number {
	for i := range top {
		a[i+1] += a[i] >> limbBits
		a[i] &= limbMask
	}
	return a
}

// less is a, which has been carried, without L as many times as its top limb
// says.
func (a number) less() number {
	return a.plus(order.times(-a[top])).carried()
}

// reduced is the least number that is a modulo L, for a from 0 to 511 L. As L
// is a little more than 2^252, the first step leaves less than 2^252, but
// perhaps less than 0, by a little. Then the top limb is -1, and the second
// step adds L; else it is 0, and nothing changes any more.
func (a number) reduced() number { return a.carried().less().less() }

// bytes is the encoding of a number below L. A byte lies in one limb, or begins
// there and ends in the next one, the rest of which does not fit into a byte.
func (a number) bytes() string {
	var out [numBytes]byte
	for k := range out {
		i, at := 8*k/limbBits, 8*k%limbBits
		out[k] = byte(a[i]>>at | a[i+1]<<(limbBits-at))
	}
	return string(out[:])
}
