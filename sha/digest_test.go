package sha

import (
	"encoding/binary"
	"strings"
	"testing"
)

// P1.1: the padding of lengths up to the document's limit, which would take
// too long to hash.
func TestPadding(t *testing.T) {
	for _, p := range []parameters{parameters256(), parameters512()} {
		for _, base := range []uint64{0, 1 << 5, 1 << 13, 1 << 21, 1 << 29, 1 << 30, 1<<31 - 1 - 256} {
			for length := base; length < base+257; length++ {
				checkPadding(t, p, length)
			}
		}
	}
}

func checkPadding(t *testing.T, p parameters, length uint64) {
	t.Helper()
	pad := padding(p, length)
	field := p.lengthBytes()
	if (length+uint64(len(pad)))%uint64(p.block) != 0 || len(pad) > p.block+field {
		t.Fatalf("block %d, length %d: padding of %d bytes", p.block, length, len(pad))
	}
	if pad[0] != 128 || strings.Trim(pad[1:len(pad)-8], "\x00") != "" {
		t.Fatalf("block %d, length %d: padding %x", p.block, length, pad)
	}
	if got := binary.BigEndian.Uint64([]byte(pad[len(pad)-8:])); got != 8*length {
		t.Fatalf("block %d, length %d: length field %d", p.block, length, got)
	}
}
