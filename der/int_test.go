package der_test

import (
	"encoding/asn1"
	"math"
	"math/big"
	"math/rand"
	"strings"
	"testing"

	"cresset/api"
	"cresset/der"
)

// checkInt holds Int and ReadInt against an integer and its body.
func checkInt(t *testing.T, n int, body string) {
	t.Helper()
	want := "\x02" + string([]byte{byte(len(body))}) + body
	if got := der.Int(n); got != want {
		t.Errorf("Int(%d): %x, not %x", n, got, want)
	}
	if got, e := der.ReadInt(body); got != n || e != api.OK {
		t.Errorf("ReadInt(%x): %d, %v, not %d", body, got, e, n)
	}
}

// checkIntLibrary holds both against the Go library.
func checkIntLibrary(t *testing.T, n int) {
	t.Helper()
	want, err := asn1.Marshal(int64(n))
	if err != nil {
		t.Fatal(err)
	}
	checkInt(t, n, string(want[2:]))
	checkRead(t, der.Int(n), 2, string(want[2:]), "")
	checkCheck(t, "an integer", der.Int(n), api.OK)
}

// checkReadInt holds ReadInt against the error that it should answer.
func checkReadIntFails(t *testing.T, body string, want api.Errno) {
	t.Helper()
	if n, e := der.ReadInt(body); n != 0 || e != want {
		t.Errorf("ReadInt(%s, %d bytes): %d, %v, not %v", short(body), len(body), n, e, want)
	}
}

// P13.3, P13.5: integers whose bytes are known, on both sides of where one byte
// more is needed.
func TestIntegers(t *testing.T) {
	for _, c := range []struct {
		n    int
		body string
	}{
		{0, "00"}, {1, "01"}, {-1, "ff"}, {2, "02"}, {-2, "fe"}, {126, "7e"}, {127, "7f"}, {128, "0080"}, {129, "0081"}, {-127, "81"}, {-128, "80"}, {-129, "ff7f"}, {-130, "ff7e"},
		{254, "00fe"}, {255, "00ff"}, {256, "0100"}, {257, "0101"}, {-255, "ff01"}, {-256, "ff00"}, {-257, "feff"},
		{32767, "7fff"}, {32768, "008000"}, {-32768, "8000"}, {-32769, "ff7fff"}, {65535, "00ffff"}, {65536, "010000"}, {-65536, "ff0000"}, {-65537, "feffff"},
		{8388607, "7fffff"}, {8388608, "00800000"}, {-8388608, "800000"}, {-8388609, "ff7fffff"},
		{math.MaxInt32, "7fffffff"}, {math.MaxInt32 + 1, "0080000000"}, {math.MinInt32, "80000000"}, {math.MinInt32 - 1, "ff7fffffff"}, {math.MaxUint32, "00ffffffff"}, {math.MaxUint32 + 1, "0100000000"},
		{1<<39 - 1, "7fffffffff"}, {1 << 39, "008000000000"}, {-1 << 39, "8000000000"}, {-1<<39 - 1, "ff7fffffffff"},
		{1<<47 - 1, "7fffffffffff"}, {1 << 47, "00800000000000"}, {-1 << 47, "800000000000"}, {-1<<47 - 1, "ff7fffffffffff"},
		{1<<55 - 1, "7fffffffffffff"}, {1 << 55, "0080000000000000"}, {-1 << 55, "80000000000000"}, {-1<<55 - 1, "ff7fffffffffffff"},
		{0x0102030405060708, "0102030405060708"}, {-0x0102030405060708, "fefdfcfbfaf9f8f8"},
		{math.MaxInt - 1, "7ffffffffffffffe"}, {math.MaxInt, "7fffffffffffffff"}, {math.MinInt, "8000000000000000"}, {math.MinInt + 1, "8000000000000001"},
	} {
		checkInt(t, c.n, unhex(t, c.body))
		checkIntLibrary(t, c.n)
	}
}

// P13.3, P13.5: many integers, near zero and near the powers of two, which the
// Go library writes alike.
func TestIntegersLikeLibrary(t *testing.T) {
	for n := -70000; n <= 70000; n++ {
		checkIntLibrary(t, n)
	}
	source := rand.New(rand.NewSource(1))
	for bit := range 64 {
		for add := -3; add <= 3; add++ {
			checkIntLibrary(t, 1<<bit+add)
			checkIntLibrary(t, -1<<bit+add)
		}
		for range 100 {
			checkIntLibrary(t, int(source.Uint64())>>bit)
		}
	}
}

// readIntReference is ReadInt, sentence by sentence; whether the first byte is
// needed it finds out by leaving it out.
func readIntReference(body string) (int, api.Errno) {
	if len(body) == 0 {
		return 0, api.ErrEnd
	}
	value := twosComplement(body)
	if len(body) > 1 && value.Cmp(twosComplement(body[1:])) == 0 {
		return 0, api.ErrBytes
	}
	if len(body) > 8 {
		return 0, api.ErrBig
	}
	return int(value.Int64()), api.OK
}

func twosComplement(body string) *big.Int {
	value := new(big.Int).SetBytes([]byte(body))
	if body[0] >= 128 {
		value.Sub(value, new(big.Int).Lsh(big.NewInt(1), uint(8*len(body))))
	}
	return value
}

// checkReadIntReference holds ReadInt against the reference, and Int against
// the body that was read.
func checkReadIntReference(t *testing.T, body string) {
	t.Helper()
	n, e := readIntReference(body)
	if e != api.OK {
		checkReadIntFails(t, body, e)
		return
	}
	checkInt(t, n, body)
}

// P13.3, P13.5: all bodies of one and two bytes, many of up to twelve, and
// those of bytes at the edges.
func TestBodiesOfIntegers(t *testing.T) {
	checkReadIntReference(t, "")
	for a := range 256 {
		checkReadIntReference(t, string([]byte{byte(a)}))
		tail := sample(a, 8)
		for b := range 256 {
			two := string([]byte{byte(a), byte(b)})
			for n := range 9 {
				checkReadIntReference(t, two+tail[:n])
			}
		}
	}
	edges := []string{"\x00", "\x01", "\x7f", "\x80", "\xfe", "\xff"}
	for i := range 6 * 6 * 6 {
		head, mixed := edges[i/36]+edges[i/6%6]+edges[i%6], sample(i, 9)
		for n := range 10 {
			for _, tail := range []string{strings.Repeat("\x00", n), strings.Repeat("\xff", n), mixed[:n]} {
				checkReadIntReference(t, head+tail)
			}
		}
	}
}

// P13.3: bodies of no bytes, with a first byte that is not needed, and of more
// than eight bytes; the first of these errors is the answer.
func TestWrongBodiesOfIntegers(t *testing.T) {
	checkReadIntFails(t, "", api.ErrEnd)
	for _, body := range []string{"0000", "0001", "007f", "ff80", "ffff", "fffe", "000000", "0000ff", "007fff", "ffff00", "ff8000", "00000000000000", "0000000000000000", "007fffffffffffff", "ff80000000000000", "ffffffffffffffff"} {
		checkReadIntFails(t, unhex(t, body), api.ErrBytes)
	}
	for n := 9; n < 300; n++ {
		for _, head := range []string{"0000", "007f", "ff80", "ffff"} {
			checkReadIntFails(t, unhex(t, head)+sample(n, n-2), api.ErrBytes)
		}
		for _, head := range []string{"0080", "00ff", "ff00", "ff7f", "0100", "01ff", "7fff", "8000", "80ff", "fe00", "feff"} {
			checkReadIntFails(t, unhex(t, head)+sample(n, n-2), api.ErrBig)
		}
	}
	checkReadIntFails(t, "\x00\x80"+strings.Repeat("\x00", 7), api.ErrBig) // 2^63
	checkReadIntFails(t, "\xff\x7f"+strings.Repeat("\xff", 7), api.ErrBig) // -2^63 - 1
	checkReadIntFails(t, "\x00"+strings.Repeat("\xff", 8), api.ErrBig)     // 2^64 - 1
	checkReadIntFails(t, "\x01"+strings.Repeat("\x00", 8), api.ErrBig)     // 2^64
	checkReadIntFails(t, strings.Repeat("\x00", 1<<20), api.ErrBytes)
	checkReadIntFails(t, strings.Repeat("\x80", 1<<20), api.ErrBig)
}

func BenchmarkInt(b *testing.B) {
	for b.Loop() {
		der.Int(1234567890)
	}
}

func BenchmarkReadInt(b *testing.B) {
	body := der.Int(1234567890)[2:]
	for b.Loop() {
		if _, e := der.ReadInt(body); e != api.OK {
			b.Fatal(e)
		}
	}
}
