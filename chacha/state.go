package chacha

import "math/bits"

const blockBytes = 64

// The places in the state where its parts begin.
const (
	keyAt    = 4
	numberAt = 12
	nonceAt  = 13
)

// state is the sixteen integers. It is passed by value, so that the rounds
// change a copy and the initial state is still there to be added.
type state [16]uint32

// initial is the state before the rounds, for the block of that number.
func initial(key, nonce string, number uint32) state {
	s := state{0x61707865, 0x3320646e, 0x79622d32, 0x6b206574}
	for i := range 8 {
		s[keyAt+i] = load(key[4*i : 4*i+4])
	}
	s[numberAt] = number
	for i := range 3 {
		s[nonceAt+i] = load(nonce[4*i : 4*i+4])
	}
	return s
}

// block is the block of the key stream that belongs to an initial state.
func (s state) block() [blockBytes]byte {
	var out [blockBytes]byte
	for i, v := range mixed(s) {
		store(out[4*i:4*i+4], v+s[i])
	}
	return out
}

// mixed is the state after all rounds.
func mixed(s state) state {
	for range 10 {
		s[0], s[4], s[8], s[12] = quarter(s[0], s[4], s[8], s[12])
		s[1], s[5], s[9], s[13] = quarter(s[1], s[5], s[9], s[13])
		s[2], s[6], s[10], s[14] = quarter(s[2], s[6], s[10], s[14])
		s[3], s[7], s[11], s[15] = quarter(s[3], s[7], s[11], s[15])
		s[0], s[5], s[10], s[15] = quarter(s[0], s[5], s[10], s[15])
		s[1], s[6], s[11], s[12] = quarter(s[1], s[6], s[11], s[12])
		s[2], s[7], s[8], s[13] = quarter(s[2], s[7], s[8], s[13])
		s[3], s[4], s[9], s[14] = quarter(s[3], s[4], s[9], s[14])
	}
	return s
}

// quarter is four integers after a quarter round.
func quarter(a, b, c, d uint32) (uint32, uint32, uint32, uint32) {
	a += b
	d = bits.RotateLeft32(d^a, 16)
	c += d
	b = bits.RotateLeft32(b^c, 12)
	a += b
	d = bits.RotateLeft32(d^a, 8)
	c += d
	b = bits.RotateLeft32(b^c, 7)
	return a, b, c, d
}

// masked is data xor the key stream that begins with the block of s. The
// number may wrap round behind the last block, where it is not used any more.
func masked(s state, data string) string {
	out := []byte(data)
	for at := 0; at < len(out); at += blockBytes {
		part := out[at:min(at+blockBytes, len(out))]
		block := s.block()
		for i := range part {
			part[i] ^= block[i]
		}
		s[numberAt]++
	}
	return string(out)
}

// load is the integer whose four bytes are s, little-endian.
func load(s string) uint32 {
	return uint32(s[0]) | uint32(s[1])<<8 | uint32(s[2])<<16 | uint32(s[3])<<24
}

// store writes v to the four bytes of out, little-endian.
func store(out []byte, v uint32) {
	for i := range out {
		out[i] = byte(v >> (8 * i))
	}
}
