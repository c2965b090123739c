package record_test

import (
	"crypto/sha256"
	"encoding/hex"
	"math"
	"math/big"
	"math/rand"
	"slices"
	"strings"
	"sync"
	"testing"
	"unsafe"

	"cresset/api"
	"cresset/record"
	"cresset/seal"
)

const (
	gcmSuite    = 4865
	chachaSuite = 4867
	mostCount   = 65536 // records of a box
	mostPadded  = 16600 // bytes of plain and its padding
)

// suites are both of them, with the sizes of their keys.
func suites() map[int]int {
	return map[int]int{gcmSuite: 16, chachaSuite: 32}
}

// pattern is n bytes by a rule that can be written in any language.
func pattern(a, n int) string {
	b := make([]byte, n)
	for i := range b {
		b[i] = byte(i*i*7 + i*a + a + i>>8*13)
	}
	return string(b)
}

// secret is what a box is made of.
type secret struct {
	suite   int
	key, iv string
}

// secretOf is one of a suite; no two seeds have the same.
func secretOf(suite, seed int) secret {
	return secret{suite, sample(2*seed, suites()[suite]), sample(2*seed+1, 12)}
}

// box is NewBox of what may be.
func (s secret) box(t testing.TB) *record.Box {
	t.Helper()
	b, e := record.NewBox(s.suite, s.key, s.iv)
	if e != api.OK || b == nil || b.Count() != 0 {
		t.Fatalf("NewBox(%d, %d bytes, %d bytes): %v", s.suite, len(s.key), len(s.iv), e)
	}
	return b
}

// nonce is that of a number, worked out by arithmetic on the iv as one integer.
func (s secret) nonce(n int) string {
	i := new(big.Int).SetBytes([]byte(s.iv))
	return string(i.Xor(i, big.NewInt(int64(n))).FillBytes(make([]byte, 12)))
}

// body is that of the n-th record, in which inner is encrypted: it may be
// anything, while a box encrypts only what has a kind in it.
func (s secret) body(t testing.TB, n int, inner string) string {
	t.Helper()
	head := plainRecord(23, zeros(len(inner)+16))[:5]
	body, e := seal.Seal(s.suite, s.key, s.nonce(n), head, inner)
	if e != api.OK {
		t.Fatalf("seal.Seal of %d bytes: %v", len(inner), e)
	}
	return body
}

// record is the n-th record by the document's words.
func (s secret) record(t testing.TB, n, kind int, plain string, pad int) string {
	t.Helper()
	return plainRecord(23, s.body(t, n, plain+string([]byte{byte(kind)})+zeros(pad)))
}

// sealed is Seal of what may be.
func sealed(t testing.TB, b *record.Box, kind int, plain string, pad int) string {
	t.Helper()
	count := b.Count()
	got, e := b.Seal(kind, plain, pad)
	if e != api.OK || len(got) != len(plain)+pad+22 || b.Count() != count+1 {
		t.Fatalf("Seal(%d, %d bytes, %d) = %d bytes, %v, and the count %d behind %d", kind, len(plain), pad, len(got), e, b.Count(), count)
	}
	return got
}

// checkSeal holds Seal against an error, with which the count stays.
func checkSeal(t *testing.T, b *record.Box, kind int, plain string, pad int, want api.Errno) {
	t.Helper()
	count := b.Count()
	if got, e := b.Seal(kind, plain, pad); got != "" || e != want || b.Count() != count {
		t.Errorf("Seal(%d, %d bytes, %d) = %d bytes, %v, not %v; the count is %d behind %d", kind, len(plain), pad, len(got), e, want, b.Count(), count)
	}
}

// opens checks that Open answers the kind and plain.
func opens(t *testing.T, b *record.Box, body string, kind int, plain string) {
	t.Helper()
	count := b.Count()
	if gotKind, got, e := b.Open(body); gotKind != kind || got != plain || e != api.OK || b.Count() != count+1 {
		t.Errorf("Open(%d bytes) = %d, %d bytes, %v, not %d, %d bytes; the count is %d behind %d", len(body), gotKind, len(got), e, kind, len(plain), b.Count(), count)
	}
}

// refuses checks that Open answers the error alone, with which the count stays.
func refuses(t *testing.T, b *record.Box, body string, want api.Errno) {
	t.Helper()
	count := b.Count()
	if kind, got, e := b.Open(body); kind != 0 || got != "" || e != want || b.Count() != count {
		t.Errorf("Open(%d bytes) = %d, %d bytes, %v, not %v; the count is %d behind %d", len(body), kind, len(got), e, want, b.Count(), count)
	}
}

// P15.3: suites that are none, keys and ivs of right lengths and of others, and
// that the suite's error goes first.
func TestNewBox(t *testing.T) {
	numbers := []int{gcmSuite, chachaSuite, 4864, 4866, 4868, 0, 1, -1, 12, 16, 32, math.MaxInt, math.MinInt}
	for suite := range suites() {
		numbers = append(numbers, -suite, ^suite, suite+1<<16, suite-1<<16, suite+1<<32, suite+math.MinInt, suite&255, suite>>8|suite&255<<8)
	}
	for _, suite := range numbers {
		for _, k := range []int{0, 1, 12, 15, 16, 17, 24, 31, 32, 33, 64, 256 + 16, 256 + 32} {
			for _, n := range []int{0, 1, 8, 11, 12, 13, 16, 24, 32, 256 + 12} {
				want := api.OK
				switch size := suites()[suite]; {
				case size == 0:
					want = api.ErrArg
				case k != size || n != 12:
					want = api.ErrKey
				}
				b, e := record.NewBox(suite, sample(k, k), sample(n, n))
				if e != want || (b != nil) != (want == api.OK) || b.Count() != 0 {
					t.Errorf("NewBox(%d, %d bytes, %d bytes) = %v, %v, not %v", suite, k, n, b, e, want)
				}
			}
		}
	}
}

// P15.4: a nil box, whatever it is given.
func TestNilBox(t *testing.T) {
	var b *record.Box
	s := secretOf(gcmSuite, 1)
	for _, kind := range []int{-1, 19, 20, 23, 24} {
		for _, n := range []int{0, 1, 16384, 16385} {
			for _, pad := range []int{math.MinInt, -1, 0, 1, 16601, math.MaxInt} {
				if got, e := b.Seal(kind, zeros(n), pad); got != "" || e != api.ErrNil {
					t.Errorf("Seal(%d, %d bytes, %d) = %x, %v", kind, n, pad, got, e)
				}
			}
		}
	}
	for _, body := range []string{"", "x", zeros(15), zeros(16), zeros(mostBody), zeros(mostBody + 1), s.body(t, 0, "\x17"), s.body(t, 0, "")} {
		if kind, got, e := b.Open(body); kind != 0 || got != "" || e != api.ErrNil {
			t.Errorf("Open(%d bytes) = %d, %x, %v", len(body), kind, got, e)
		}
	}
	if n := b.Count(); n != 0 {
		t.Errorf("Count = %d", n)
	}
}

// P15.4, R1: a box that NewBox has not made has no suite: without a panic, it
// answers the error of package seal.
func TestBoxWithoutASuite(t *testing.T) {
	b := new(record.Box)
	if got, e := b.Seal(23, "x", 1); got != "" || e != api.ErrArg {
		t.Errorf("Seal = %x, %v", got, e)
	}
	if kind, got, e := b.Open(zeros(40)); kind != 0 || got != "" || e != api.ErrArg {
		t.Errorf("Open = %d, %x, %v", kind, got, e)
	}
	if n := b.Count(); n != 0 {
		t.Errorf("Count = %d", n)
	}
}

// P15.4: records that were worked out in Python, with OpenSSL's ciphers.
func TestKnownRecords(t *testing.T) {
	known := map[int][]string{
		gcmSuite: {
			"1703030011e92b9bb8ea679973d6eeec08038cc3d5ca", "1703030012e98cef9841175dd23184bb1c2869b2ae5625",
			"1703030013485e903d3e966ce9314062b177e8bd96439f52", "1703030019bd833f03845a3e92cdbc3ab2798b3a3bd34be6b909f769eb75",
			"1703030012f135b864360b2d4d6fa70284310c7a73fc81", "1703030016df155ac5efd4b21c36da60304ca842ada27c99674d2d",
		},
		chachaSuite: {
			"170303001150b79bab8aa47d554389a7243388e697c6", "1703030012eeca431669f46096fe2f47f480c2b3718d13",
			"17030300133f1d089bcb5e3968ec99eb47d3ba3a711379dc", "170303001932" + "79e872b09caac4ab8f4f93a8ca7440d71319ae76e4bfc609",
			"170303001215173f6776b70b713d806b5517f5407bac9a", "1703030016ea6112f65bfcedc36807cff1daf831383a273bffcf55",
		},
	}
	for suite, size := range suites() {
		s := secret{suite, pattern(3, size), pattern(4, 12)}
		a, b := s.box(t), s.box(t)
		for n, c := range []struct {
			kind  int
			plain string
			pad   int
		}{{22, "", 0}, {20, "", 1}, {21, "\x01\x00", 0}, {23, "hello", 3}, {23, "\x00", 0}, {22, "\x00\x16\x00", 2}} {
			want := unhex(t, known[suite][n])
			if got := sealed(t, a, c.kind, c.plain, c.pad); got != want {
				t.Errorf("suite %d, record %d: %x, not %x", suite, n, got, want)
			}
			opens(t, b, want[5:], c.kind, c.plain)
		}
	}
}

// P15.4: what Python answers for lengths and pads at the edges; only the digest
// of these records is kept.
func TestRecordsAtTheEdges(t *testing.T) {
	known := map[int]string{gcmSuite: "2cb604f428b62fa54a66a6dcef64059fa0ea3f9c9c853e110f97d0c2e5e5d175", chachaSuite: "8ff9b7a3f10331b1c5f17fb05a24af6f87b3834550e9dbffe4b67bb39ed5b5cc"}
	for suite, size := range suites() {
		s := secret{suite, pattern(3, size), pattern(4, 12)}
		a, b := s.box(t), s.box(t)
		all := sha256.New()
		for n, c := range [][2]int{{0, 0}, {16384, 0}, {16384, 216}, {16383, 217}, {0, 16600}, {1, 16599}, {216, 16384}, {215, 16385}, {255, 0}, {238, 0}, {239, 0}, {239, 1}, {240, 0}} {
			plain := pattern(n, c[0])
			text := sealed(t, a, 20+n%4, plain, c[1])
			all.Write([]byte(text))
			opens(t, b, text[5:], 20+n%4, plain)
		}
		if got := hex.EncodeToString(all.Sum(nil)); got != known[suite] {
			t.Errorf("suite %d: other records: %s", suite, got)
		}
	}
}

// P15.4, P15.5: all records of a box, whose digest is what Python answers, and
// what is refused when there is no number left.
func TestAllNumbers(t *testing.T) {
	known := map[int]string{gcmSuite: "c5042ce2ae2c3d8597e3a6ab43c228519a65dec50118e9607a9816573db25004", chachaSuite: "9372ddb43f25bbfb3e41c88084eebfc0985b2c62f34558341d8c65c3c635e9ec"}
	for suite, size := range suites() {
		s := secret{suite, pattern(3, size), pattern(4, 12)}
		a, b := s.box(t), s.box(t)
		all := sha256.New()
		for n := range mostCount {
			plain := pattern(n, n%9)
			text := sealed(t, a, 20+n%4, plain, n%5)
			all.Write([]byte(text))
			if n == mostCount-1 {
				refuses(t, b, flipped(text[5:], 0), api.ErrTag)
				refuses(t, b, zeros(mostBody+1), api.ErrTag)
				refuses(t, b, s.body(t, n, "\x00"), api.ErrBytes)
			}
			opens(t, b, text[5:], 20+n%4, plain)
		}
		if got := hex.EncodeToString(all.Sum(nil)); got != known[suite] {
			t.Errorf("suite %d: other records: %s", suite, got)
		}
		for _, full := range []*record.Box{a, b} {
			checkFull(t, s, full)
		}
	}
}

// checkFull checks what a box refuses whose count is 65536.
func checkFull(t *testing.T, s secret, b *record.Box) {
	t.Helper()
	for range 2 {
		if n := b.Count(); n != mostCount {
			t.Errorf("Count = %d", n)
		}
		checkSeal(t, b, 23, "x", 0, api.ErrSeq)
		checkSeal(t, b, 20, zeros(16384), 216, api.ErrSeq)
		checkSeal(t, b, 19, "x", 0, api.ErrArg)
		checkSeal(t, b, 23, "x", -1, api.ErrArg)
		checkSeal(t, b, 24, zeros(16385), -1, api.ErrArg)
		checkSeal(t, b, 23, zeros(16385), 0, api.ErrBig)
		checkSeal(t, b, 23, "x", 16600, api.ErrBig)
		for _, body := range []string{"", zeros(15), zeros(16), zeros(mostBody), zeros(mostBody + 1), s.body(t, mostCount, "x\x17"), s.body(t, mostCount, ""), s.body(t, mostCount, "x"), s.body(t, mostCount-1, "x\x17"), s.body(t, 0, "x\x17")} {
			refuses(t, b, body, api.ErrSeq)
		}
	}
}

// P15.4: what Seal refuses, and the order of its errors, between records that
// it encrypts.
func TestSealOfWrongArguments(t *testing.T) {
	long := sample(1, 65536+100)
	for suite := range suites() {
		s := secretOf(suite, 1)
		b := s.box(t)
		for _, kind := range append(otherKinds(), -1, 0, 3, 19, 20, 21, 22, 23, 24, 256) {
			for _, n := range []int{0, 1, 16384, 16385, 16600, 16601, 65536, 65536 + 100} {
				for _, pad := range []int{0, 216, 217, 16599, 16600, 16601, -1, -2, -16601, math.MinInt, math.MinInt + 1, math.MaxInt, math.MaxInt - 1, math.MaxInt - 16384, math.MaxInt - 16383, math.MaxInt32, 1 << 32, 1<<32 + 5} {
					switch {
					case !isKind(kind) || pad < 0:
						checkSeal(t, b, kind, long[:n], pad, api.ErrArg)
					case n > 16384 || n > mostPadded-pad:
						checkSeal(t, b, kind, long[:n], pad, api.ErrBig)
					}
				}
			}
		}
		if got := sealed(t, b, 22, "after", 1); got != s.record(t, 0, 22, "after", 1) {
			t.Errorf("suite %d: %x", suite, got)
		}
	}
}

// P15.4: lengths and pads around the greatest ones.
func TestSealAtTheLimits(t *testing.T) {
	long := sample(1, 16700)
	for suite := range suites() {
		s := secretOf(suite, 2)
		a, b := s.box(t), s.box(t)
		for _, c := range [][2]int{{0, 16600}, {1, 16599}, {16383, 0}, {16383, 1}, {16383, 216}, {16383, 217}, {16384, 0}, {16384, 1}, {16384, 215}, {16384, 216}} {
			n, pad := c[0], c[1]
			text := sealed(t, a, 23, long[:n], pad)
			if text != s.record(t, b.Count(), 23, long[:n], pad) {
				t.Errorf("suite %d, %d bytes, %d: another record", suite, n, pad)
			}
			opens(t, b, text[5:], 23, long[:n])
			if n+pad == mostPadded {
				checkSeal(t, a, 23, long[:n], pad+1, api.ErrBig)
				checkSeal(t, a, 23, long[:n+1], pad, api.ErrBig)
			}
		}
		checkSeal(t, a, 23, long[:16385], 0, api.ErrBig)
	}
}

// P15.4: records by the document's words, of each kind and any lengths and
// pads, there and back.
func TestRecordsByTheDocument(t *testing.T) {
	source := rand.New(rand.NewSource(1))
	for suite := range suites() {
		s := secretOf(suite, 3)
		a, b := s.box(t), s.box(t)
		for n := range 600 {
			kind, plain, pad := 20+source.Intn(4), sample(n, source.Intn(300)), source.Intn(40)
			switch n % 3 {
			case 0:
				plain = zeros(len(plain) / 10)
			case 1:
				plain += zeros(pad) + "\x17" + zeros(n%7)
			}
			text := sealed(t, a, kind, plain, pad)
			if want := s.record(t, n, kind, plain, pad); text != want {
				t.Errorf("suite %d, record %d: %x, not %x", suite, n, text, want)
			}
			if n%10 == 0 {
				refuses(t, b, flipped(text[5:], source.Intn(8*len(text)-40)), api.ErrTag)
			}
			opens(t, b, text[5:], kind, plain)
		}
	}
}

// P15.4: bodies that are no longer than a tag, or as long as may be, or longer
// by a byte, with right tags and with others.
func TestLengthsOfOpen(t *testing.T) {
	for suite := range suites() {
		s := secretOf(suite, 4)
		b := s.box(t)
		tag := s.body(t, 0, "")
		for n := range 16 {
			refuses(t, b, tag[:n], api.ErrTag)
			refuses(t, b, zeros(n), api.ErrTag)
		}
		refuses(t, b, tag, api.ErrBytes)
		refuses(t, b, zeros(16), api.ErrTag)
		refuses(t, b, tag+"\x00", api.ErrTag)
		for _, n := range []int{mostBody - 1, mostBody, mostBody + 1, mostBody + 2, 20000, 65535, 65536 + 40, 1<<20 + 16, 1<<20 + 17} {
			refuses(t, b, zeros(n), api.ErrTag)
			if n > 1<<20+16 {
				continue
			}
			body := s.body(t, b.Count(), "text\x16"+zeros(n-21))
			refuses(t, b, flipped(body, 8*n-1), api.ErrTag)
			if n > mostBody {
				refuses(t, b, body, api.ErrTag)
				continue
			}
			opens(t, b, body, 22, "text")
		}
		if n := b.Count(); n != 2 {
			t.Errorf("suite %d: the count is %d", suite, n)
		}
	}
}

// P15.4: each last byte other than 0, with nothing ahead of it and with more,
// and with zero bytes behind it or none.
func TestKindsWithin(t *testing.T) {
	for suite := range suites() {
		s := secretOf(suite, 5)
		b := s.box(t)
		for last := 1; last < 256; last++ {
			for _, plain := range []string{"", "a", "\x00", "\x17", "\x17\x00", "\x00\x00\x16", sample(last, 20), sample(last, 15)} {
				for _, pad := range []int{0, 1, 16, 100} {
					body := s.body(t, b.Count(), plain+string([]byte{byte(last)})+zeros(pad))
					if isKind(last) {
						opens(t, b, body, last, plain)
					} else {
						refuses(t, b, body, api.ErrBytes)
					}
				}
			}
		}
		for _, n := range []int{0, 1, 2, 15, 16, 17, 300, 16384, 16385, mostBody - 16} {
			refuses(t, b, s.body(t, b.Count(), zeros(n)), api.ErrBytes)
		}
	}
}

// P15.4: as many bytes ahead of the kind as may be, and more: ErrBig, but only
// behind ErrBytes.
func TestBytesAheadOfTheKind(t *testing.T) {
	long := sample(1, mostBody)
	for suite := range suites() {
		s := secretOf(suite, 6)
		b := s.box(t)
		for _, n := range []int{0, 1, 16383, 16384, 16385, 16386, 16600, 16601, 16623} {
			for _, pad := range []int{0, 1, 215, 216, 217, 238, 239, 240} {
				if n+1+pad+16 > mostBody {
					continue
				}
				for _, kind := range []string{"\x14", "\x15", "\x16", "\x17"} {
					body := s.body(t, b.Count(), long[:n]+kind+zeros(pad))
					if n > 16384 {
						refuses(t, b, body, api.ErrBig)
					} else {
						opens(t, b, body, int(kind[0]), long[:n])
					}
				}
				for _, kind := range []string{"\x13", "\x18", "\x01", "\xff"} {
					refuses(t, b, s.body(t, b.Count(), long[:n]+kind+zeros(pad)), api.ErrBytes)
				}
			}
		}
		refuses(t, b, s.body(t, b.Count(), zeros(16384)+"\x00\x17"), api.ErrBig)
		refuses(t, b, s.body(t, b.Count(), strings.Repeat("\x17", 16386)), api.ErrBig)
		opens(t, b, s.body(t, b.Count(), strings.Repeat("\x17", 16385)), 23, strings.Repeat("\x17", 16384))
	}
}

// P15.4, P15.5: each bit of a body counts, and each byte of a tag, changed to
// any other.
func TestChangedBodies(t *testing.T) {
	for suite := range suites() {
		s := secretOf(suite, 7)
		a, b := s.box(t), s.box(t)
		for n := range 3 {
			plain := sample(n, 20*n)
			body := sealed(t, a, 21+n, plain, n)[5:]
			for i := range 8 * len(body) {
				refuses(t, b, flipped(body, i), api.ErrTag)
			}
			for i := len(body) - 16; i < len(body); i++ {
				for mask := 1; mask < 256; mask++ {
					changed := []byte(body)
					changed[i] ^= byte(mask)
					refuses(t, b, string(changed), api.ErrTag)
				}
			}
			for _, other := range []string{"", body[1:], body[:len(body)-1], body + "\x00", "\x00" + body, body + body, body[len(body)-16:], zeros(len(body))} {
				refuses(t, b, other, api.ErrTag)
			}
			opens(t, b, body, 21+n, plain)
		}
	}
}

// P15.4: the header is that of a record of kind 23 with this body: under any
// other the tag is another one.
func TestOtherHeaders(t *testing.T) {
	for suite := range suites() {
		s := secretOf(suite, 8)
		b := s.box(t)
		for _, head := range []string{"", "\x17", "\x17\x03\x03", "\x16\x03\x03\x00\x16", "\x14\x03\x03\x00\x16", "\x17\x03\x01\x00\x16", "\x17\x03\x04\x00\x16", "\x17\x02\x03\x00\x16", "\x17\x03\x03\x16\x00", "\x17\x03\x03\x00\x06", "\x17\x03\x03\x00\x05", "\x17\x03\x03\x00\x1b", "\x17\x03\x03\x00\x16\x00"} {
			body, e := seal.Seal(suite, s.key, s.nonce(0), head, "hello\x17")
			if e != api.OK {
				t.Fatal(e)
			}
			refuses(t, b, body, api.ErrTag)
		}
		body, _ := seal.Seal(suite, s.key, s.nonce(0), "\x17\x03\x03\x00\x16", "hello\x17")
		opens(t, b, body, 23, "hello")
	}
}

// P15.5: records in another order, left out or repeated, and of another box.
func TestOtherOrders(t *testing.T) {
	for suite := range suites() {
		s := secretOf(suite, 9)
		a, b := s.box(t), s.box(t)
		var bodies []string
		for n := range 300 {
			bodies = append(bodies, sealed(t, a, 23, "the same", 0)[5:])
			if slices.Contains(bodies[:n], bodies[n]) {
				t.Errorf("suite %d: record %d is another one again", suite, n)
			}
		}
		for n, body := range bodies {
			for _, other := range []int{0, n - 1, n + 1, n - 256, n + 256, n ^ 1, len(bodies) - 1 - n, len(bodies) - 1} {
				if other != n && other >= 0 && other < len(bodies) {
					refuses(t, b, bodies[other], api.ErrTag)
				}
			}
			opens(t, b, body, 23, "the same")
		}
		for _, other := range []secret{{suite, flipped(s.key, 0), s.iv}, {suite, flipped(s.key, 8*len(s.key)-1), s.iv}, {suite, s.key, flipped(s.iv, 0)}, {suite, s.key, flipped(s.iv, 95)}, secretOf(gcmSuite+chachaSuite-suite, 9)} {
			refuses(t, other.box(t), bodies[0], api.ErrTag)
		}
	}
}

// P15.4: the count of a new box, behind each call and behind what is refused,
// of a box that encrypts and decrypts in turns as well.
func TestCount(t *testing.T) {
	for suite := range suites() {
		s := secretOf(suite, 10)
		b := s.box(t)
		for n := range 300 {
			if got := b.Count(); got != n {
				t.Errorf("suite %d: the count is %d behind %d records", suite, got, n)
			}
			refuses(t, b, "x", api.ErrTag)
			refuses(t, b, zeros(mostBody+1), api.ErrTag)
			refuses(t, b, s.body(t, n, "x"), api.ErrBytes)
			checkSeal(t, b, 19, "x", 0, api.ErrArg)
			checkSeal(t, b, 23, "x", mostPadded, api.ErrBig)
			if n%3 == 0 {
				opens(t, b, s.body(t, n, "x\x17"), 23, "x")
			} else if got := sealed(t, b, 22, "y", 2); got != s.record(t, n, 22, "y", 2) {
				t.Errorf("suite %d, record %d: %x", suite, n, got)
			}
		}
	}
}

// P15.5: two boxes of each suite that go side by side, with a reader between
// the ends of each.
func TestSideBySide(t *testing.T) {
	type way struct {
		from, to *record.Box
		r        *record.Reader
	}
	var ways []way
	for suite := range suites() {
		for seed := range 2 {
			s := secretOf(suite, 11+seed)
			ways = append(ways, way{s.box(t), s.box(t), record.NewReader()})
		}
	}
	for n := range 200 {
		for i, w := range ways {
			text := sealed(t, w.from, 20+(n+i)%4, sample(n+i, n*i), n%(1+i))
			checkFeed(t, w.r, text[:n%len(text)], api.OK)
			checkNext(t, w.r, 0, "", api.ErrBusy)
			checkFeed(t, w.r, text[n%len(text):], api.OK)
			kind, body, e := w.r.Next()
			if kind != 23 || e != api.OK {
				t.Fatalf("Next: %d, %v", kind, e)
			}
			refuses(t, ways[(i+1)%len(ways)].to, body, api.ErrTag)
			opens(t, w.to, body, 20+(n+i)%4, sample(n+i, n*i))
		}
	}
}

// R2: keys and ivs stay as they are and are not kept: their memory may become
// something else.
func TestKeyMemoryIsNotKept(t *testing.T) {
	for suite := range suites() {
		s := secretOf(suite, 13)
		memory := []byte(s.key + s.iv + "behind")
		b := secret{suite, unsafe.String(&memory[0], len(s.key)), unsafe.String(&memory[len(s.key)], 12)}.box(t)
		if string(memory) != s.key+s.iv+"behind" {
			t.Error("an argument has changed")
		}
		clear(memory)
		for n := range 3 {
			if got := sealed(t, b, 23, "x", n); got != s.record(t, n, 23, "x", n) {
				t.Errorf("suite %d, record %d: %x", suite, n, got)
			}
		}
	}
}

// R2: the texts stay as they are, and an answer is memory of its own.
func TestTextMemoryIsNotShared(t *testing.T) {
	for suite := range suites() {
		s := secretOf(suite, 14)
		a, b := s.box(t), s.box(t)
		plain := sample(1, 50)
		memory := []byte(plain + "behind")
		text := sealed(t, a, 23, unsafe.String(&memory[0], 50), 4)
		if string(memory) != plain+"behind" {
			t.Error("an argument of Seal has changed")
		}
		clear(memory)
		if text != s.record(t, 0, 23, plain, 4) {
			t.Errorf("suite %d: %x", suite, text)
		}
		memory = []byte(text + "behind")
		_, back, e := b.Open(unsafe.String(&memory[5], len(text)-5))
		if string(memory) != text+"behind" {
			t.Error("an argument of Open has changed")
		}
		clear(memory)
		if back != plain || e != api.OK {
			t.Errorf("suite %d: %x, %v", suite, back, e)
		}
	}
}

// R3: boxes at the same time do not see each other.
func TestBoxesAtTheSameTime(t *testing.T) {
	var all sync.WaitGroup
	for i := range 8 {
		s := secretOf([]int{gcmSuite, chachaSuite}[i%2], 15+i)
		a, b := s.box(t), s.box(t)
		want := s.record(t, 50, 22, sample(i, 90), i)
		all.Go(func() {
			for n := range 100 {
				text, _ := a.Seal(22, sample(i, 90), i)
				if n == 50 && text != want {
					t.Errorf("box %d: %x, not %x", i, text, want)
				}
				if kind, got, e := b.Open(text[5:]); kind != 22 || got != sample(i, 90) || e != api.OK {
					t.Errorf("box %d, record %d: %d, %x, %v", i, n, kind, got, e)
				}
			}
		})
	}
	all.Wait()
}

func BenchmarkSealGCM(b *testing.B)    { benchmarkSeal(b, gcmSuite) }
func BenchmarkSealChaCha(b *testing.B) { benchmarkSeal(b, chachaSuite) }

// benchmarkSeal encrypts the longest plaintext of a record, with a new box
// where the old one has no number left.
func benchmarkSeal(b *testing.B, suite int) {
	s, plain := secretOf(suite, 1), sample(1, api.MaxPlain)
	a := s.box(b)
	b.SetBytes(int64(len(plain)))
	for b.Loop() {
		if a.Count() == mostCount {
			a = s.box(b)
		}
		sealed(b, a, 23, plain, 0)
	}
}
