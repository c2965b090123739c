package ladder

import "cresset/field"

const topBit = 254 // the highest bit of a scalar, which all of them have

// scalar is an integer of 32 bytes, little-endian.
type scalar [keyBytes]byte

// scalarOf is the scalar of a secret.
func scalarOf(secret string) scalar {
	var k scalar
	copy(k[:], secret)
	k[0] &^= 1<<3 - 1
	k[keyBytes-1] &^= 1 << 7
	k[keyBytes-1] |= 1 << 6
	return k
}

// bit is the n-th bit of a scalar, as a number to reckon with.
func (k scalar) bit(n int) field.Num {
	return field.Small(int(k[n/8] >> (n % 8) & 1))
}
