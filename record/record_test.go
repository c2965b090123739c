package record_test

import (
	"encoding/hex"
	"math"
	"math/rand"
	"strings"
	"testing"

	"cresset/api"
	"cresset/record"
)

const mostBody = 16640 // bytes of a body

// sample is n bytes of all values, without a short period; no two seeds have
// the same.
func sample(seed, n int) string {
	b := make([]byte, n)
	rand.New(rand.NewSource(int64(seed))).Read(b)
	return string(b)
}

func unhex(t testing.TB, s string) string {
	t.Helper()
	b, err := hex.DecodeString(s)
	if err != nil {
		t.Fatal(err)
	}
	return string(b)
}

func zeros(n int) string { return strings.Repeat("\x00", n) }

// flipped is s with the n-th bit another one.
func flipped(s string, n int) string {
	b := []byte(s)
	b[n/8] ^= 1 << (n % 8)
	return string(b)
}

// isKind is the document's list of kinds.
func isKind(n int) bool {
	return n == 20 || n == 21 || n == 22 || n == 23
}

// plainRecord is a record by the document's words: its length may be wrong, if
// the body is longer than one may be.
func plainRecord(kind int, body string) string {
	return string([]byte{byte(kind), 3, 3, byte(len(body) / 256), byte(len(body) % 256)}) + body
}

// framed is Frame of what may be.
func framed(t testing.TB, kind int, body string) string {
	t.Helper()
	got, e := record.Frame(kind, body)
	if e != api.OK {
		t.Fatalf("Frame(%d, %d bytes): %v", kind, len(body), e)
	}
	return got
}

// checkFrame holds Frame against the document's words.
func checkFrame(t *testing.T, kind int, body string) {
	t.Helper()
	want, wantError := "", api.OK
	switch {
	case !isKind(kind):
		wantError = api.ErrArg
	case len(body) > mostBody:
		wantError = api.ErrBig
	default:
		want = plainRecord(kind, body)
	}
	if got, e := record.Frame(kind, body); got != want || e != wantError {
		t.Errorf("Frame(%d, %d bytes) = %d bytes that begin with %x, %v, not %d bytes, %v", kind, len(body), len(got), got[:min(len(got), 10)], e, len(want), wantError)
	}
}

// otherKinds are numbers that no kind has, among them some that would be one
// if only their low bits counted, or only their size.
func otherKinds() []int {
	list := []int{math.MaxInt, math.MinInt, math.MaxInt32, math.MinInt32}
	for _, kind := range []int{20, 21, 22, 23} {
		list = append(list, -kind, ^kind, kind+256, kind-256, kind+512, kind+1<<16, kind+1<<32, kind-1<<32, kind+math.MinInt, kind<<8, kind<<1, kind^32)
	}
	return list
}

// P15.1: records that are written out, among them the document's example.
func TestFrame(t *testing.T) {
	for _, c := range []struct {
		kind       int
		body, want string
	}{
		{22, "ab", "1603030002" + "6162"},
		{20, "\x01", "1403030001" + "01"},
		{21, "\x02\x0a", "1503030002" + "020a"},
		{23, "", "1703030000"},
		{23, "\x00", "1703030001" + "00"},
		{20, "\x14\x03\x03\x00\x00", "1403030005" + "1403030000"},
	} {
		if got := framed(t, c.kind, c.body); got != unhex(t, c.want) {
			t.Errorf("Frame(%d, %x) = %x, not %s", c.kind, c.body, got, c.want)
		}
	}
	for n, want := range map[int]string{255: "17030300ff", 256: "1703030100", 257: "1703030101", 16384: "1703034000", 16639: "17030340ff", 16640: "1703034100"} {
		if got := framed(t, 23, sample(n, n)); got != unhex(t, want)+sample(n, n) {
			t.Errorf("Frame(23, %d bytes) = %d bytes that begin with %x, not %s", n, len(got), got[:5], want)
		}
	}
}

// P15.1: each kind and other numbers, with bodies that may be and that are too
// long: of two errors the kind's is answered.
func TestKindsOfFrame(t *testing.T) {
	kinds := otherKinds()
	for kind := -300; kind < 600; kind++ {
		kinds = append(kinds, kind)
	}
	long := sample(1, mostBody+1)
	for _, kind := range kinds {
		for _, n := range []int{0, 1, 2, mostBody + 1} {
			checkFrame(t, kind, long[:n])
		}
	}
	for _, kind := range []int{-1, 19, 20, 21, 22, 23, 24, 256} {
		for _, n := range []int{0, 1, 255, 256, mostBody, mostBody + 1} {
			checkFrame(t, kind, long[:n])
		}
	}
}

// P15.1: bodies of each length, up to some that are too long.
func TestLengthsOfFrame(t *testing.T) {
	long := sample(1, 1<<17)
	for n := range 17000 {
		checkFrame(t, 20+n%4, long[:n])
	}
	for _, n := range []int{32767, 32768, 65535, 65536, 65537, 65536 + 5, 65536 + mostBody, 65536 + mostBody + 1, 1 << 17} {
		for _, kind := range []int{19, 20, 21, 22, 23, 24} {
			checkFrame(t, kind, long[:n])
		}
	}
}

func BenchmarkFrame(b *testing.B) {
	body := sample(1, mostBody)
	b.SetBytes(int64(len(body)))
	for b.Loop() {
		framed(b, 23, body)
	}
}
