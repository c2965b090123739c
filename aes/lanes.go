package aes

// The lowest bit of every lane, the highest bit of every lane, and what x^8 is
// modulo the polynomial of AES.
const (
	lowest  = 0x0101010101010101
	highest = lowest * 0x80
	wrap    = 0x1b
)

// lanes is eight bytes, the first one lowest, each of them a polynomial by
// itself. They are worked on together and without a table, so that the time it
// takes does not tell what they are.
type lanes uint64

// squares is the squares of the powers of x, from 1 to x^7.
var squares = [8]lanes{0x01, 0x04, 0x10, 0x40, 0x1b, 0x6c, 0xab, 0x9a}

// load is the lanes of up to eight bytes.
func load(b []byte) lanes {
	var a lanes
	for i, v := range b {
		a |= lanes(v) << (8 * i)
	}
	return a
}

// store writes the first lanes to out, as many as there is room for.
func store(out []byte, a lanes) {
	for i := range out {
		out[i] = byte(a >> (8 * i))
	}
}

// swapped is Swap of each byte.
func (a lanes) swapped() lanes {
	i := a.inverse()
	return i ^ i.rotated(1) ^ i.rotated(2) ^ i.rotated(3) ^ i.rotated(4) ^ lowest*0x63
}

// inverse is the inverse of each byte. The powers of a byte that is not 0 come
// round after the 255th, which is 1, and so its inverse is the 254th; that of 0
// is 0, which is its inverse too. 254 is 15 * 16 + 12 + 2.
func (a lanes) inverse() lanes {
	two := a.squared(1)
	three := two.times(a)
	twelve := three.squared(2)
	fifteen := twelve.times(three)
	return fifteen.squared(4).times(twelve).times(two)
}

// doubled is the product of each byte and x.
func (a lanes) doubled() lanes {
	return (a&^highest)<<1 ^ (a>>7&lowest)*wrap
}

// times is the product of each byte of a and that of b in the same place.
func (a lanes) times(b lanes) lanes {
	var out lanes
	for range 8 {
		out ^= a & ((b & lowest) * 0xff)
		b >>= 1
		a = a.doubled()
	}
	return out
}

// squared is each byte squared n times. The square of a sum is the sum of the
// squares, since a product that appears twice is nothing.
func (a lanes) squared(n int) lanes {
	for range n {
		var out lanes
		for i := range squares {
			out ^= (a >> i & lowest) * squares[i]
		}
		a = out
	}
	return a
}

// rotated is each byte rotated left by n, as 8 bits.
func (a lanes) rotated(n int) lanes {
	stay := lanes(lowest * (0xff >> n))
	return (a&stay)<<n | (a>>(8-n))&^(stay<<n)
}
