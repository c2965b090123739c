package der_test

import (
	"encoding/asn1"
	"math"
	"math/big"
	"math/rand"
	"slices"
	"strings"
	"testing"

	"cresset/api"
	"cresset/der"
)

// oidBody is the body of Oid of numbers that may be.
func oidBody(t testing.TB, l ...int) string {
	t.Helper()
	data, e := der.Oid(l...)
	if e != api.OK {
		t.Fatalf("Oid(%v): %v", l, e)
	}
	return data[2:]
}

// checkOid holds Oid and ReadOid against numbers and their body.
func checkOid(t *testing.T, l []int, body string) {
	t.Helper()
	want := "\x06" + string([]byte{byte(len(body))}) + body
	if got, e := der.Oid(l...); got != want || e != api.OK {
		t.Errorf("Oid(%v): %x, %v, not %x", l, got, e, want)
	}
	checkReadOid(t, body, l)
}

// checkOidLibrary holds both against the Go library.
func checkOidLibrary(t *testing.T, l ...int) {
	t.Helper()
	want, err := asn1.Marshal(asn1.ObjectIdentifier(l))
	if err != nil {
		t.Fatal(err)
	}
	checkOid(t, l, string(want[2:]))
	checkCheck(t, "an object identifier", string(want), api.OK)
	checkRead(t, string(want), 6, string(want[2:]), "")
}

// checkOidFails holds Oid against the error that it should answer.
func checkOidFails(t *testing.T, l []int, want api.Errno) {
	t.Helper()
	if data, e := der.Oid(l...); data != "" || e != want {
		t.Errorf("Oid(%v): %x, %v, not %v", l, data, e, want)
	}
}

// checkReadOid holds ReadOid against the numbers that it should answer.
func checkReadOid(t *testing.T, body string, want []int) {
	t.Helper()
	if got, e := der.ReadOid(body); !slices.Equal(got, want) || e != api.OK {
		t.Errorf("ReadOid(%s): %v, %v, not %v", short(body), got, e, want)
	}
}

// checkReadOidFails holds ReadOid against the error that it should answer.
func checkReadOidFails(t *testing.T, body string, want api.Errno) {
	t.Helper()
	if l, e := der.ReadOid(body); len(l) != 0 || e != want {
		t.Errorf("ReadOid(%s, %d bytes): %v, %v, not %v", short(body), len(body), l, e, want)
	}
}

// filled is a list of so many numbers, all alike.
func filled(n, number int) []int {
	l := make([]int, n)
	for i := range l {
		l[i] = number
	}
	return l
}

// P13.4, P13.5: object identifiers whose bytes are known: those of X.690, of
// PKCS #1, of names and of keys.
func TestObjectIdentifiers(t *testing.T) {
	for _, c := range []struct {
		l    []int
		body string
	}{
		{[]int{2, 100, 3}, "813403"},
		{[]int{2, 999, 3}, "883703"},
		{[]int{1, 2, 840, 113549}, "2a864886f70d"},
		{[]int{1, 2, 840, 113549, 1, 1, 1}, "2a864886f70d010101"},
		{[]int{2, 5, 4, 3}, "550403"},
		{[]int{1, 3, 101, 110}, "2b656e"},
		{[]int{1, 3, 101, 112}, "2b6570"},
		{[]int{1, 3, 6, 1, 4, 1, 311, 21, 20}, "2b0601040182371514"},
		{[]int{2, 16, 840, 1, 101, 3, 4, 2, 1}, "608648016503040201"},
	} {
		checkOid(t, c.l, unhex(t, c.body))
		checkOidLibrary(t, c.l...)
	}
}

// P13.4, P13.5: first and second numbers at their edges, alone and with others
// behind them.
func TestFirstTwoNumbers(t *testing.T) {
	for _, c := range []struct {
		first, second int
		body          string
	}{
		{0, 0, "00"}, {0, 1, "01"}, {0, 38, "26"}, {0, 39, "27"}, {1, 0, "28"}, {1, 1, "29"}, {1, 38, "4e"}, {1, 39, "4f"},
		{2, 0, "50"}, {2, 1, "51"}, {2, 38, "76"}, {2, 39, "77"}, {2, 40, "78"}, {2, 41, "79"}, {2, 47, "7f"}, {2, 48, "8100"}, {2, 79, "811f"}, {2, 80, "8120"},
		{2, 175, "817f"}, {2, 176, "8200"}, {2, 16303, "ff7f"}, {2, 16304, "818000"}, {2, 65535, "84804f"}, {2, 999999, "bd850f"}, {2, 1000000, "bd8510"},
	} {
		body := unhex(t, c.body)
		checkOid(t, []int{c.first, c.second}, body)
		checkOid(t, []int{c.first, c.second, 0}, body+"\x00")
		checkOid(t, []int{c.first, c.second, 40, 128}, body+"\x28\x81\x00")
		checkOidLibrary(t, c.first, c.second)
		checkOidLibrary(t, c.first, c.second, 268435455, 7)
	}
}

// P13.4, P13.5: other numbers, on both sides of where one byte more is needed.
func TestOtherNumbers(t *testing.T) {
	for _, c := range []struct {
		n    int
		body string
	}{
		{0, "00"}, {1, "01"}, {39, "27"}, {40, "28"}, {79, "4f"}, {80, "50"}, {126, "7e"}, {127, "7f"}, {128, "8100"}, {129, "8101"}, {255, "817f"}, {256, "8200"},
		{16382, "ff7e"}, {16383, "ff7f"}, {16384, "818000"}, {16385, "818001"}, {32768, "828000"}, {65535, "83ff7f"}, {1000000, "bd8440"}, {1000001, "bd8441"},
		{2097150, "ffff7e"}, {2097151, "ffff7f"}, {2097152, "81808000"}, {2097153, "81808001"}, {134217728, "c0808000"}, {268435454, "ffffff7e"}, {268435455, "ffffff7f"},
	} {
		body := unhex(t, c.body)
		checkOid(t, []int{1, 2, c.n}, "\x2a"+body)
		checkOid(t, []int{0, 0, c.n}, "\x00"+body)
		checkOid(t, []int{2, 48, c.n, 5, c.n}, "\x81\x00"+body+"\x05"+body)
		checkOidLibrary(t, 2, 5, c.n, c.n)
	}
}

// P13.4, P13.5: all numbers of up to two bytes, and others without a pattern.
func TestOidLikeLibrary(t *testing.T) {
	for n := range 20000 {
		checkOidLibrary(t, 1, 2, n)
		checkOidLibrary(t, 2, n)
	}
	source := rand.New(rand.NewSource(1))
	for range 20000 {
		l := []int{source.Intn(3), source.Intn(40)}
		if l[0] == 2 {
			l[1] = source.Intn(1000001) >> source.Intn(20)
		}
		for range source.Intn(19) {
			l = append(l, source.Intn(268435456)>>source.Intn(28))
		}
		checkOidLibrary(t, l...)
	}
}

// P13.4, P13.5: lists of two to twenty numbers, the shortest and the longest
// element among them, and those of more.
func TestHowManyNumbers(t *testing.T) {
	for n := range 23 {
		for _, number := range []int{0, 1, 2, 39, 127, 128, 268435455} {
			l := append([]int{2, 5}, filled(max(n-2, 0), number)...)[:n]
			switch {
			case n < 2:
				checkOidFails(t, l, api.ErrArg)
			case n > 20:
				checkOidFails(t, l, api.ErrBig)
			default:
				checkOidLibrary(t, l...)
			}
		}
	}
	longest := append([]int{2, 1000000}, filled(18, 268435455)...)
	checkOid(t, longest, "\xbd\x85\x10"+strings.Repeat("\xff\xff\xff\x7f", 18))
	checkOid(t, []int{0, 0}, "\x00")
	checkOid(t, filled(20, 0), strings.Repeat("\x00", 19))
	for _, n := range []int{21, 22, 40, 255, 256, 1000, 1 << 20} {
		checkOidFails(t, filled(n, 1), api.ErrBig)
	}
}

// P13.4: too few numbers, whatever they are.
func TestTooFewNumbers(t *testing.T) {
	checkOidFails(t, nil, api.ErrArg)
	checkOidFails(t, []int{}, api.ErrArg)
	for _, n := range []int{0, 1, 2, 3, 39, 40, -1, 1000001, 268435455, 268435456, math.MaxInt, math.MinInt} {
		checkOidFails(t, []int{n}, api.ErrArg)
	}
	if data, e := der.Oid(); data != "" || e != api.ErrArg {
		t.Errorf("Oid(): %x, %v", data, e)
	}
}

// P13.4: a negative number, a first number and a second one that may not be,
// also where a number is too great or there are too many of them.
func TestWrongNumbers(t *testing.T) {
	for _, l := range [][]int{
		{-1, 0}, {0, -1}, {1, -1}, {2, -1}, {1, 2, -1}, {1, 2, 3, -1}, {1, 2, -1, 3}, {-1, -1}, {-1, 39}, {-1, 40}, {-2, 80}, {2, -40}, {2, math.MinInt}, {math.MinInt, 0}, {math.MinInt, math.MinInt}, {0, 0, math.MinInt}, {1, 2, -128}, {1, 2, -268435456},
		{3, 0}, {3, 1}, {3, 39}, {3, 40}, {4, 0}, {5, 5}, {39, 1}, {40, 0}, {128, 0}, {255, 1}, {256, 0}, {1 << 32, 1}, {math.MaxInt, 0}, {math.MaxInt, math.MaxInt},
		{0, 40}, {0, 41}, {0, 80}, {0, 1000000}, {0, 1000001}, {1, 40}, {1, 41}, {1, 1000000}, {1, 1000001}, {1, math.MaxInt},
		{2, 1000001}, {2, 1000002}, {2, 16777216}, {2, 268435375}, {2, 268435376}, {2, 268435455}, {2, 268435456}, {2, math.MaxInt - 80}, {2, math.MaxInt},
	} {
		checkOidFails(t, l, api.ErrArg)
		checkOidFails(t, append(l, 1, 2, 3), api.ErrArg)
		checkOidFails(t, append(l, 268435456), api.ErrArg)
		checkOidFails(t, append(l, math.MaxInt, 5), api.ErrArg)
		checkOidFails(t, append(l, filled(30, 1)...), api.ErrArg)
		checkOidFails(t, append(l, filled(30, 268435456)...), api.ErrArg)
	}
	for _, n := range []int{3, 4, 19, 20, 21, 22, 100} {
		for at := 2; at < n; at++ {
			l := filled(n, 1)
			l[at] = -1
			checkOidFails(t, l, api.ErrArg)
			for other := 2; other < n; other++ {
				if other != at {
					l[other] = math.MaxInt
					checkOidFails(t, l, api.ErrArg)
				}
			}
		}
	}
}

// P13.4: numbers that are too great, at each place behind the first two.
func TestGreatNumbers(t *testing.T) {
	for _, n := range []int{268435456, 268435457, 1 << 29, 1<<31 - 1, 1 << 31, 1 << 32, 1<<32 + 1, 1 << 35, math.MaxInt} {
		for size := 3; size < 23; size++ {
			for at := 2; at < size; at++ {
				l := filled(size, 1)
				l[at] = n
				checkOidFails(t, l, api.ErrBig)
			}
		}
	}
}

// readOidReference is ReadOid, sentence by sentence.
func readOidReference(body string) ([]int, api.Errno) {
	if len(body) == 0 || body[len(body)-1] >= 128 {
		return nil, api.ErrEnd
	}
	var values []string
	from := 0
	for i := range len(body) {
		if body[i] < 128 {
			values = append(values, body[from:i+1])
			from = i + 1
		}
	}
	if slices.ContainsFunc(values, func(v string) bool { return v[0] == 128 }) {
		return nil, api.ErrBytes
	}
	if slices.ContainsFunc(values, func(v string) bool { return len(v) > 4 }) || len(values) > 19 {
		return nil, api.ErrBig
	}
	var l []int
	for _, v := range values {
		value := new(big.Int)
		for i := range len(v) {
			value.Mul(value, big.NewInt(128)).Add(value, big.NewInt(int64(v[i]%128)))
		}
		l = append(l, int(value.Int64()))
	}
	if l[0] < 80 {
		return append([]int{l[0] / 40, l[0] % 40}, l[1:]...), api.OK
	}
	return append([]int{2, l[0] - 80}, l[1:]...), api.OK
}

// checkReadOidReference holds ReadOid against the reference, and Oid against
// the body that was read.
func checkReadOidReference(t *testing.T, body string) {
	t.Helper()
	l, e := readOidReference(body)
	if e != api.OK {
		checkReadOidFails(t, body, e)
		return
	}
	if l[1] <= 1000000 {
		checkOid(t, l, body)
		return
	}
	checkReadOid(t, body, l)
}

// P13.4, P13.5: all bodies of one and two bytes, and many of more.
func TestBodiesOfOids(t *testing.T) {
	checkReadOidReference(t, "")
	for a := range 256 {
		checkReadOidReference(t, string([]byte{byte(a)}))
		for b := range 256 {
			two := string([]byte{byte(a), byte(b)})
			for _, rest := range []string{"", "\x00", "\x7f", "\x80", "\xff", "\x80\x00", "\x80\x80\x01", "\xff\xff\x7f", "\xff\xff\xff\x7f", "\x05\x80\x05"} {
				checkReadOidReference(t, two+rest)
			}
		}
	}
	source := rand.New(rand.NewSource(1))
	seen := map[api.Errno]int{}
	for range 200000 {
		b := make([]byte, 1+source.Intn(40))
		for i := range b {
			b[i] = byte(source.Int())
			if source.Intn(3) > 0 {
				b[i] &= 0x7f
			}
			if b[i] == 0x80 && source.Intn(3) > 0 {
				b[i] = 0x81
			}
		}
		_, e := readOidReference(string(b))
		seen[e]++
		checkReadOidReference(t, string(b))
	}
	for _, e := range []api.Errno{api.OK, api.ErrEnd, api.ErrBytes, api.ErrBig} {
		if seen[e] < 1000 {
			t.Errorf("%v: seen %d times", e, seen[e])
		}
	}
}

// P13.4: how a first value is split into two numbers.
func TestFirstValues(t *testing.T) {
	for _, c := range []struct {
		body          string
		first, second int
	}{
		{"00", 0, 0}, {"01", 0, 1}, {"26", 0, 38}, {"27", 0, 39}, {"28", 1, 0}, {"29", 1, 1}, {"4e", 1, 38}, {"4f", 1, 39}, {"50", 2, 0}, {"51", 2, 1}, {"76", 2, 38}, {"77", 2, 39}, {"78", 2, 40}, {"7f", 2, 47}, {"8100", 2, 48}, {"817f", 2, 175}, {"ff7f", 2, 16303}, {"818000", 2, 16304}, {"bd8510", 2, 1000000},
	} {
		checkReadOid(t, unhex(t, c.body), []int{c.first, c.second})
		checkReadOid(t, unhex(t, c.body)+"\x27\x81\x00", []int{c.first, c.second, 39, 128})
	}
}

// P13.4: first values that are greater than Oid makes them: ReadOid has no
// error for them, so that P13.5 does not reach them.
func TestFirstValuesWithoutOid(t *testing.T) {
	for _, c := range []struct {
		body   string
		second int
	}{{"bd8511", 1000001}, {"ffff7f", 2097071}, {"81808000", 2097072}, {"ffffff7e", 268435374}, {"ffffff7f", 268435375}} {
		checkReadOid(t, unhex(t, c.body), []int{2, c.second})
		checkReadOid(t, unhex(t, c.body)+"\x05", []int{2, c.second, 5})
		checkOidFails(t, []int{2, c.second}, api.ErrArg)
	}
}

// P13.4: values of three, four and five bytes at each place of a body.
func TestLongValues(t *testing.T) {
	for size := 1; size < 19; size++ {
		for at := range size {
			with := func(value string) string {
				return strings.Repeat("\x05", at) + value + strings.Repeat("\x06", size-1-at)
			}
			for _, value := range []string{"\x81\x80\x00", "\xbd\x80\x10", "\x81\x80\x80\x00", "\xff\xff\xff\x7f"} {
				checkReadOidReference(t, with(value))
			}
			for _, value := range []string{"\x81\x80\x80\x80\x00", "\x81\x80\x80\x80\x80\x00", "\xff\xff\xff\xff\x7f", "\x81" + strings.Repeat("\x80", 8) + "\x00", "\x82" + strings.Repeat("\x80", 9) + "\x05", strings.Repeat("\xff", 300) + "\x00"} {
				checkReadOidFails(t, with(value), api.ErrBig)
			}
			for _, value := range []string{"\x80\x00", "\x80\x01", "\x80\x7f", "\x80\x80\x01", "\x80\xff\x7f", "\x80\xff\xff\xff\x7f", "\x80\x81\x80\x80\x80\x00"} {
				checkReadOidFails(t, with(value), api.ErrBytes)
			}
		}
	}
}

// P13.4, P13.5: bodies of up to nineteen values and of more.
func TestHowManyValues(t *testing.T) {
	for n := 1; n < 23; n++ {
		for _, value := range []string{"\x00", "\x01", "\x7f", "\x81\x00", "\xff\x7f", "\x81\x80\x80\x00", "\xff\xff\xff\x7f"} {
			body := strings.Repeat(value, n)
			if n > 19 {
				checkReadOidFails(t, body, api.ErrBig)
				checkReadOidFails(t, "\x2b"+body, api.ErrBig)
				continue
			}
			checkReadOidReference(t, body)
			checkReadOidReference(t, "\x2b"+body[len(value):])
		}
	}
	for _, n := range []int{100, 255, 256, 65535, 1 << 20} {
		checkReadOidFails(t, strings.Repeat("\x01", n), api.ErrBig)
	}
}

// P13.4: which error is the answer where several apply, wherever the places
// are at which a body is wrong.
func TestFirstErrorOfReadOid(t *testing.T) {
	long, many, padded := "\x81\x80\x80\x80\x00", strings.Repeat("\x01", 20), "\x80\x01"
	for _, body := range []string{long, many, long + many, many + long, long + "\x05", "\x05" + long + "\x05" + many} {
		checkReadOidFails(t, body, api.ErrBig)
		checkReadOidFails(t, body+padded, api.ErrBytes)
		checkReadOidFails(t, padded+body, api.ErrBytes)
		checkReadOidFails(t, body+"\x05"+padded+"\x05", api.ErrBytes)
		checkReadOidFails(t, body+padded+body, api.ErrBytes)
		checkReadOidFails(t, body+"\x80"+long, api.ErrBytes)
		for _, end := range []string{"\x80", "\x81", "\xff", "\x81\x80", "\x80\x80\x80", long[:4]} {
			checkReadOidFails(t, body+end, api.ErrEnd)
			checkReadOidFails(t, padded+end, api.ErrEnd)
			checkReadOidFails(t, padded+body+end, api.ErrEnd)
			checkReadOidFails(t, body+padded+end, api.ErrEnd)
		}
	}
	for _, body := range []string{"", "\x80", "\x81", "\xff", "\x2b\x80", "\x2b\x81", "\x2b\xff", "\x80\x80", "\x81\x80\x80\x80\x80", strings.Repeat("\x80", 1<<20), strings.Repeat("\xff", 1<<20)} {
		checkReadOidFails(t, body, api.ErrEnd)
	}
	checkReadOidFails(t, strings.Repeat("\xff", 1<<20)+"\x00", api.ErrBig)
	checkReadOidFails(t, strings.Repeat("\x80", 1<<20)+"\x00", api.ErrBytes)
	checkReadOidFails(t, strings.Repeat("\x01", 1<<20)+padded, api.ErrBytes)
}

func BenchmarkOid(b *testing.B) {
	for b.Loop() {
		oidBody(b, 1, 2, 840, 113549, 1, 1, 1)
	}
}

func BenchmarkReadOid(b *testing.B) {
	body := oidBody(b, 1, 2, 840, 113549, 1, 1, 1)
	for b.Loop() {
		if _, e := der.ReadOid(body); e != api.OK {
			b.Fatal(e)
		}
	}
}
