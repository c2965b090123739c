package sha_test

import (
	"crypto/sha256"
	"crypto/sha512"
	"encoding/hex"
	"fmt"
	"math"
	"math/rand"
	"strings"
	"testing"

	"cresset/api"
	"cresset/sha"
)

// kind is one of the two functions, and the standard library's answer for it.
type kind struct {
	size int
	sum  func(string) string
	want func(string) string
}

func kinds() []kind {
	return []kind{
		{32, sha.Sum256, func(s string) string { d := sha256.Sum256([]byte(s)); return string(d[:]) }},
		{64, sha.Sum512, func(s string) string { d := sha512.Sum512([]byte(s)); return string(d[:]) }},
	}
}

// sample is n bytes of all values, without a short period.
func sample(n int) string {
	b := make([]byte, n)
	rand.New(rand.NewSource(int64(n))).Read(b)
	return string(b)
}

func newHash(t *testing.T, size int) *sha.Hash {
	t.Helper()
	h, e := sha.New(size)
	if e != api.OK || h == nil {
		t.Fatalf("New(%d) = %v, %v", size, h, e)
	}
	return h
}

func write(t *testing.T, h *sha.Hash, data string) {
	t.Helper()
	if e := h.Write(data); e != api.OK {
		t.Fatalf("Write of %d bytes = %v", len(data), e)
	}
}

// P1.1: digests that were published, so that they hang on no other program.
func TestPublishedDigests(t *testing.T) {
	for _, c := range []struct{ data, short, long string }{
		{
			"",
			"e3b0c44298fc1c149afbf4c8996fb92427ae41e4649b934ca495991b7852b855",
			"cf83e1357eefb8bdf1542850d66d8007d620e4050b5715dc83f4a921d36ce9ce" +
				"47d0d13c5d85f2b0ff8318d2877eec2f63b931bd47417a81a538327af927da3e",
		},
		{
			"abc",
			"ba7816bf8f01cfea414140de5dae2223b00361a396177a9cb410ff61f20015ad",
			"ddaf35a193617abacc417349ae20413112e6fa4e89a97ea20a9eeee64b55d39a" +
				"2192992a274fc1a836ba3c23a3feebbd454d4423643ce80e2a9ac94fa54ca49f",
		},
		{
			strings.Repeat("a", 1000000),
			"cdc76e5c9914fb9281a1c7e284d73e67f1809a48a497200e046d39ccc7112cd0",
			"e718483d0ce769644e2e42c7bc15b4638e1f98b13b2044285632a803afa973eb" +
				"de0ff244877ea60a4cb0432ce577c31beb009c5c2c49aa2e4eadb217ad8cc09b",
		},
	} {
		if got := hex.EncodeToString([]byte(sha.Sum256(c.data))); got != c.short {
			t.Errorf("Sum256 of %d bytes = %s", len(c.data), got)
		}
		if got := hex.EncodeToString([]byte(sha.Sum512(c.data))); got != c.long {
			t.Errorf("Sum512 of %d bytes = %s", len(c.data), got)
		}
	}
}

// P1.1: every length about the padding's edges of both functions (55, 56, 63
// and 64; 111, 112, 127 and 128; and the same a few blocks on).
func TestEveryLength(t *testing.T) {
	for _, k := range kinds() {
		for n := range 4*128 + 2 {
			for _, data := range []string{sample(n), strings.Repeat("\x00", n), strings.Repeat("\xff", n)} {
				if got := k.sum(data); got != k.want(data) {
					t.Errorf("size %d: %d bytes, first %.1q: %x", k.size, n, data, got)
				}
			}
		}
	}
}

// P1.1: more data than fits the low bytes of the length field.
func TestLongData(t *testing.T) {
	for _, k := range kinds() {
		for _, n := range []int{1<<13 - 1, 1 << 13, 1<<16 + 1, 1<<21 + 77} {
			if data := sample(n); k.sum(data) != k.want(data) {
				t.Errorf("size %d: %d bytes", k.size, n)
			}
		}
	}
}

// P1.2: only 32 and 64 are sizes.
func TestNewSizes(t *testing.T) {
	for _, n := range []int{math.MinInt, -64, -32, -1, 0, 1, 20, 28, 31, 33, 48, 63, 65, 128, 256, 512, 1<<32 + 32, 1<<32 + 64, math.MaxInt} {
		if h, e := sha.New(n); h != nil || e != api.ErrArg {
			t.Errorf("New(%d) = %v, %v", n, h, e)
		}
	}
	for _, k := range kinds() {
		h := newHash(t, k.size)
		if got := h.Sum(); got != k.want("") {
			t.Errorf("size %d: nothing written: %x", k.size, got)
		}
	}
}

// P1.2: a nil hash answers, and does not panic.
func TestNilHash(t *testing.T) {
	var h *sha.Hash
	for _, data := range []string{"", "abc", sample(1000)} {
		if e := h.Write(data); e != api.ErrNil {
			t.Errorf("Write of %d bytes = %v", len(data), e)
		}
		if got := h.Sum(); got != "" {
			t.Errorf("Sum = %x", got)
		}
	}
}

// R1: a Hash that New has not made answers, and does not panic.
func TestHashWithoutSize(t *testing.T) {
	var h sha.Hash
	for _, data := range []string{"", "abc", sample(1000)} {
		if e := h.Write(data); e != api.ErrArg {
			t.Errorf("Write of %d bytes = %v", len(data), e)
		}
		if got := h.Sum(); got != "" {
			t.Errorf("Sum = %x", got)
		}
	}
}

// P1.2: Sum changes nothing, asked twice or between two calls of Write.
func TestSumBetweenWrites(t *testing.T) {
	for _, k := range kinds() {
		h := newHash(t, k.size)
		all := ""
		for n := range 150 {
			piece := sample(n)
			write(t, h, piece)
			all += piece
			first, second := h.Sum(), h.Sum()
			if first != k.want(all) || second != first {
				t.Fatalf("size %d: %d bytes: %x, %x", k.size, len(all), first, second)
			}
		}
	}
}

// P1.2: two hashes have nothing to do with each other, whatever order their
// calls come in, nor has a hash with a copy of it.
func TestHashesApart(t *testing.T) {
	for _, k := range kinds() {
		one, other := newHash(t, k.size), newHash(t, k.size)
		write(t, one, "common")
		write(t, other, "com")
		held := *one
		write(t, one, " one")
		write(t, other, "pletely other")
		write(t, &held, " held")
		for h, want := range map[*sha.Hash]string{one: "common one", other: "completely other", &held: "common held"} {
			if got := h.Sum(); got != k.want(want) {
				t.Errorf("size %d: %s: %x", k.size, want, got)
			}
		}
	}
}

// P1.3: every way to divide data in two, at lengths about the edges.
func TestDividedInTwo(t *testing.T) {
	for _, k := range kinds() {
		for _, n := range []int{0, 1, 55, 56, 63, 64, 65, 111, 112, 119, 120, 127, 128, 129, 191, 192, 255, 256, 257, 300} {
			data := sample(n)
			for cut := range n + 1 {
				h := newHash(t, k.size)
				write(t, h, data[:cut])
				write(t, h, data[cut:])
				if got := h.Sum(); got != k.want(data) {
					t.Errorf("size %d: %d bytes cut at %d: %x", k.size, n, cut, got)
				}
			}
		}
	}
}

// P1.3: pieces of one size each, the last one shorter, with empty ones among them.
func TestDividedEvenly(t *testing.T) {
	data := sample(1000)
	for _, k := range kinds() {
		for size := 1; size <= 300; size++ {
			h := newHash(t, k.size)
			for rest := data; rest != ""; {
				n := min(size, len(rest))
				write(t, h, rest[:n])
				write(t, h, "")
				rest = rest[n:]
			}
			if got := h.Sum(); got != k.want(data) {
				t.Errorf("size %d: pieces of %d: %x", k.size, size, got)
			}
		}
	}
}

// P1.3: pieces of many sizes, drawn from a source that always draws the same.
func TestDividedAnyhow(t *testing.T) {
	draw := rand.New(rand.NewSource(1))
	for _, k := range kinds() {
		for range 300 {
			h := newHash(t, k.size)
			all, sizes := "", []string{}
			for range draw.Intn(12) {
				n := draw.Intn(1 << draw.Intn(10))
				piece := sample(n)
				write(t, h, piece)
				all += piece
				sizes = append(sizes, fmt.Sprint(n))
				if draw.Intn(4) == 0 {
					h.Sum()
				}
			}
			if got := h.Sum(); got != k.want(all) || got != k.sum(all) {
				t.Errorf("size %d: pieces of %s: %x", k.size, strings.Join(sizes, ", "), got)
			}
		}
	}
}

func BenchmarkSum(b *testing.B) {
	data := sample(1 << 20)
	for _, k := range kinds() {
		b.Run(fmt.Sprint(k.size), func(b *testing.B) {
			b.SetBytes(int64(len(data)))
			for b.Loop() {
				k.sum(data)
			}
		})
	}
}
