package gcm

const blockBytes = 16

// block is sixteen bytes.
type block [blockBytes]byte

// blockOf is the block that text begins with. What text lacks of one is zero
// bytes.
func blockOf(text string) block {
	var b block
	copy(b[:], text)
	return b
}

// blockOfTwo is the block of two numbers, eight bytes each.
func blockOfTwo(first, second uint64) block {
	var b block
	put(b[:wordBytes], first)
	put(b[wordBytes:], second)
	return b
}

// counterBlock is the counter block of n.
func counterBlock(nonce string, n uint32) block {
	b := blockOf(nonce)
	put(b[nonceBytes:], uint64(n))
	return b
}

// put fills out with n, big-endian.
func put(out []byte, n uint64) {
	for i := range out {
		out[len(out)-1-i] = byte(n >> (8 * i))
	}
}

// number is the one that b tells, big-endian.
func number(b []byte) uint64 {
	var out uint64
	for _, v := range b {
		out = out<<8 | uint64(v)
	}
	return out
}
