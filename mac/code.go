package mac

import "cresset/sha"

// blockKey has room for a block of either hash function. Of SHA-256 only the
// first half is in use.
type blockKey [128]byte

// blockOf is the length of a block of the hash function: both functions have
// blocks that are twice as long as their digests.
func blockOf(size int) int { return 2 * size }

// digest is the digest of data by the hash function of that size.
func digest(size int, data string) string {
	if size == 32 {
		return sha.Sum256(data)
	}
	return sha.Sum512(data)
}

// blockKeyOf is the block key of key. The array is zero where nothing is
// copied, and so fills the key up.
func blockKeyOf(size int, key string) blockKey {
	if len(key) > blockOf(size) {
		key = digest(size, key)
	}
	var k blockKey
	copy(k[:], key)
	return k
}

// masked is the block of k in use, each byte xor mask.
func (k blockKey) masked(size int, mask byte) string {
	block := k[:blockOf(size)]
	for i := range block {
		block[i] ^= mask
	}
	return string(block)
}

// code is the HMAC of data under a block key. Expand makes up to 255 codes
// under one key, and so the block key is worked out ahead of it.
func code(size int, k blockKey, data string) string {
	inner := digest(size, k.masked(size, 0x36)+data)
	return digest(size, k.masked(size, 0x5c)+inner)
}

// expanded is the first n bytes of the codes t1, t2 and so on, each of the one
// before it, info and its number. The number fits a byte: n is at most 8160.
func expanded(k blockKey, info string, n int) string {
	out := make([]byte, 0, n+32)
	t := ""
	for number := byte(1); len(out) < n; number++ {
		t = code(32, k, t+info+string([]byte{number}))
		out = append(out, t...)
	}
	return string(out[:n])
}

// labelInfo is the info by which Label asks Expand. The lengths fit: Label has
// held them against its bounds.
func labelInfo(label, context string, n int) string {
	full := labelPrefix + label
	info := []byte{byte(n >> 8), byte(n), byte(len(full))}
	info = append(info, full...)
	info = append(info, byte(len(context)))
	info = append(info, context...)
	return string(info)
}
