// Package sha is layer 1: the hash functions SHA-256 and SHA-512, for whole
// strings and piece by piece. See shared/doc/01-sha.md.
package sha

import "cresset/api"

// Sum256 is the SHA-256 digest of data, 32 bytes.
func Sum256(data string) string { return digest[uint32](parameters256(), data) }

// Sum512 is the SHA-512 digest of data, 64 bytes.
func Sum512(data string) string { return digest[uint64](parameters512(), data) }

// Hash computes a digest of data that comes in pieces. Only the part that
// belongs to its size is in use; both are values, so that a Hash that is
// copied shares nothing with its copy.
type Hash struct {
	size  int
	short running[uint32]
	long  running[uint64]
}

// New is a hash to which nothing has been written, for digests of size bytes:
// 32 or 64.
func New(size int) (*Hash, api.Errno) {
	switch size {
	case 32:
		return &Hash{size: size, short: start[uint32](parameters256())}, api.OK
	case 64:
		return &Hash{size: size, long: start[uint64](parameters512())}, api.OK
	}
	return nil, api.ErrArg
}

// Write appends data to what has been written. A Hash that New has not made
// has no size, and so nothing can be written to it.
func (h *Hash) Write(data string) api.Errno {
	if h == nil {
		return api.ErrNil
	}
	switch h.size {
	case 32:
		h.short.write(parameters256(), data)
	case 64:
		h.long.write(parameters512(), data)
	default:
		return api.ErrArg
	}
	return api.OK
}

// Sum is the digest of everything that has been written; more can be written
// after it.
func (h *Hash) Sum() string {
	if h == nil {
		return ""
	}
	switch h.size {
	case 32:
		return h.short.sum(parameters256())
	case 64:
		return h.long.sum(parameters512())
	}
	return ""
}
