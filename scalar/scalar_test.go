package scalar_test

import (
	"crypto/ed25519"
	"crypto/sha512"
	"encoding/hex"
	"math/big"
	"math/rand"
	"slices"
	"strings"
	"sync"
	"testing"
	"unsafe"

	"cresset/api"
	"cresset/scalar"
)

// sample is n bytes of all values, without a short period; no two seeds have
// the same.
func sample(seed, n int) string {
	b := make([]byte, n)
	rand.New(rand.NewSource(int64(seed))).Read(b)
	return string(b)
}

func unhex(t testing.TB, s string) string {
	t.Helper()
	b, err := hex.DecodeString(s)
	if err != nil {
		t.Fatal(err)
	}
	return string(b)
}

// zeros and ones are n bytes of no bits and of all bits.
func zeros(n int) string { return strings.Repeat("\x00", n) }
func ones(n int) string  { return strings.Repeat("\xff", n) }

func small(n int64) *big.Int { return big.NewInt(n) }

func power(n uint) *big.Int { return new(big.Int).Lsh(small(1), n) }

func plus(a, b *big.Int) *big.Int  { return new(big.Int).Add(a, b) }
func minus(a, b *big.Int) *big.Int { return new(big.Int).Sub(a, b) }
func times(a, b *big.Int) *big.Int { return new(big.Int).Mul(a, b) }

// order is L, as the document writes it in decimal.
func order() *big.Int {
	rest, _ := new(big.Int).SetString("27742317777372353535851937790883648493", 10)
	return plus(power(252), rest)
}

// least is v modulo L, also for a v below 0.
func least(v *big.Int) *big.Int { return new(big.Int).Mod(v, order()) }

// reversed is s with the last byte first.
func reversed(s string) string {
	b := []byte(s)
	slices.Reverse(b)
	return string(b)
}

// integer is what s encodes; narrow and wide are 32 and 64 bytes for a v that
// has room in them.
func integer(s string) *big.Int { return new(big.Int).SetBytes([]byte(reversed(s))) }

func narrow(v *big.Int) string { return reversed(string(v.FillBytes(make([]byte, 32)))) }
func wide(v *big.Int) string   { return reversed(string(v.FillBytes(make([]byte, 64)))) }

// flipped is s with the n-th bit another one.
func flipped(s string, n int) string {
	b := []byte(s)
	b[n/8] ^= 1 << (n % 8)
	return string(b)
}

// near is v and the integers up to d below and above, as far as n bits hold
// them.
func near(v *big.Int, d int64, n int) []*big.Int {
	var out []*big.Int
	for i := -d; i <= d; i++ {
		if w := plus(v, small(i)); w.Sign() >= 0 && w.BitLen() <= n {
			out = append(out, w)
		}
	}
	return out
}

// named is the integers of 32 bytes that stand beside the order and beside the
// powers of 2 around it.
func named() []*big.Int {
	out := near(small(0), 2, 256)
	for _, v := range []*big.Int{order(), times(small(2), order()), times(small(15), order()), power(252), power(253), power(255), power(256)} {
		out = append(out, near(v, 2, 256)...)
	}
	return out
}

// few is named and some more: few enough to be taken in threes.
func few() []*big.Int {
	out := named()
	for i := range 6 {
		out = append(out, integer(sample(i, 32)))
	}
	for _, n := range []uint{8, 36, 64, 126, 128, 216} {
		out = append(out, power(n), minus(power(n), small(1)), minus(power(256), power(n)))
	}
	return append(out, integer(strings.Repeat("\x55", 32)), integer(strings.Repeat("\xaa", 32)))
}

// many is few and the integers beside each power of 2, beside L less that, and
// with all bits but one.
func many() []*big.Int {
	out := few()
	for n := range uint(256) {
		out = append(out, near(power(n), 1, 256)...)
		if n < 252 {
			out = append(out, minus(order(), power(n)), plus(order(), power(n)))
		}
		out = append(out, minus(minus(power(256), small(1)), power(n)))
	}
	for i := range 200 {
		out = append(out, integer(sample(100+i, 32)))
	}
	return out
}

// check holds an answer that is no error against an integer, modulo L.
func check(t *testing.T, what string, got string, e api.Errno, want *big.Int) {
	t.Helper()
	if got != narrow(least(want)) || e != api.OK {
		t.Errorf("%s: %x, %v, not %x", what, got, e, narrow(least(want)))
	}
	if !scalar.Right(got) {
		t.Errorf("%s: %x is not right", what, got)
	}
}

// checkWide and checkMulAdd hold the answers of a call against big integers.
func checkWide(t *testing.T, v *big.Int) {
	t.Helper()
	got, e := scalar.Wide(wide(v))
	check(t, "Wide("+v.Text(16)+")", got, e, v)
}

func checkMulAdd(t *testing.T, a, b, c *big.Int) {
	t.Helper()
	got, e := scalar.MulAdd(narrow(a), narrow(b), narrow(c))
	check(t, a.Text(16)+" "+b.Text(16)+" + "+c.Text(16), got, e, plus(times(a, b), c))
}

// wideOf and mulAdd are the calls of which a test knows that they are right.
func wideOf(t testing.TB, s string) string {
	t.Helper()
	out, e := scalar.Wide(s)
	if e != api.OK || len(out) != 32 {
		t.Fatalf("Wide(%x): %x, %v", s, out, e)
	}
	return out
}

func mulAdd(t testing.TB, a, b, c string) string {
	t.Helper()
	out, e := scalar.MulAdd(a, b, c)
	if e != api.OK || len(out) != 32 {
		t.Fatalf("MulAdd(%x, %x, %x): %x, %v", a, b, c, out, e)
	}
	return out
}

// P10.1, P10.2: the chapter's examples, and the order as its words write it.
func TestExamples(t *testing.T) {
	l := unhex(t, "edd3f55c1a631258d69cf7a2def9de1400000000000000000000000000000010")
	if l != narrow(order()) {
		t.Error("the two ways to write the order are not the same")
	}
	one := "\x01" + zeros(31)
	if got := mulAdd(t, one, one, one); got != "\x02"+zeros(31) {
		t.Errorf("1 1 + 1: %x", got)
	}
	if got := wideOf(t, l+zeros(32)); got != zeros(32) {
		t.Errorf("L: %x", got)
	}
	if scalar.Right(l) {
		t.Error("L is right")
	}
}

// edges is integers of 32 bytes at the borders of L, of its double and of powers
// of 2, and what they are modulo L, written out.
func edges() map[string]string {
	const below = "ecd3f55c1a631258d69cf7a2def9de1400000000000000000000000000000010"
	zero, one := strings.Repeat("00", 32), "01"+strings.Repeat("00", 31)
	return map[string]string{
		zero:  zero,
		one:   one,
		below: below,
		"edd3f55c1a631258d69cf7a2def9de1400000000000000000000000000000010": zero,
		"eed3f55c1a631258d69cf7a2def9de1400000000000000000000000000000010": one,
		"d9a7ebb934c624b0ac39ef45bdf3bd2900000000000000000000000000000020": below,
		"daa7ebb934c624b0ac39ef45bdf3bd2900000000000000000000000000000020": zero,
		"0000000000000000000000000000000000000000000000000000000000000010": "0000000000000000000000000000000000000000000000000000000000000010",
		"0000000000000000000000000000000000000000000000000000000000000020": "132c0aa3e59ceda72963085d210621ebffffffffffffffffffffffffffffff0f",
		"0000000000000000000000000000000000000000000000000000000000000080": "85344775474a7f9723b63a8be92ae76dffffffffffffffffffffffffffffff0f",
		strings.Repeat("ff", 32): "1c95988d7431ecd670cf7d73f45befc6feffffffffffffffffffffffffffff0f",
	}
}

// P10.1, P10.2, P10.3: these edges, through each call.
func TestEdgesWrittenOut(t *testing.T) {
	one := "\x01" + zeros(31)
	for in, want := range edges() {
		s, w := unhex(t, in), unhex(t, want)
		if got := wideOf(t, s+zeros(32)); got != w {
			t.Errorf("Wide(%s): %x", in, got)
		}
		if scalar.Right(s) != (in == want) {
			t.Errorf("Right(%s): %v", in, scalar.Right(s))
		}
		for i, got := range []string{mulAdd(t, s, one, zeros(32)), mulAdd(t, one, s, zeros(32)), mulAdd(t, zeros(32), ones(32), s)} {
			if got != w {
				t.Errorf("%s in the place %d: %x", in, i, got)
			}
		}
	}
}

// P10.1: integers of more than 32 bytes, written out.
func TestWideWrittenOut(t *testing.T) {
	for in, want := range map[string]string{
		zeros(32) + "\x01" + zeros(31): "1d95988d7431ecd670cf7d73f45befc6feffffffffffffffffffffffffffff0f",
		zeros(63) + "\x80":             "77f1c8d07e3a0cfe0e98be05c38a76f232dffa0be93976e71e4d18be8da0cc09",
		ones(64):                       "000f9c44e31106a447938568a71b0ed065bef517d273ecce3d9a307c1b419903",
		unhex(t, "fff063bb1ceef95bb86c7a9758e4f12f9a410ae82d8c1331c265cf83e4be66fc") + ones(32): strings.Repeat("00", 32),
	} {
		if got := wideOf(t, in); got != unhex(t, want) {
			t.Errorf("Wide(%x): %x, not %s", in, got, want)
		}
	}
}

// multiples is numbers how often to take L: the least ones and the greatest
// ones whose product with L has 64 bytes, those beside powers of 2, and others
// between.
func multiples() []*big.Int {
	last := new(big.Int).Div(minus(power(512), small(1)), order())
	var out []*big.Int
	for n := range int64(600) {
		out = append(out, small(n), minus(last, small(n)))
	}
	for n := range uint(260) {
		out = append(out, near(power(n), 1, 512)...)
		out = append(out, minus(last, power(n)))
	}
	for i := range 300 {
		out = append(out, integer(sample(i, 1+i%32)))
	}
	return slices.DeleteFunc(out, func(v *big.Int) bool { return v.Sign() < 0 || v.Cmp(last) > 0 })
}

// P10.1: multiples of L up to 2^512 - 1, with a few more and less.
func TestWideBesideMultiples(t *testing.T) {
	for _, n := range multiples() {
		for _, v := range near(times(n, order()), 2, 512) {
			checkWide(t, v)
		}
	}
}

// P10.1: integers beside the powers of 2 that 64 bytes hold, some in either half,
// and integers without a pattern.
func TestWide(t *testing.T) {
	for n := range uint(513) {
		for _, v := range near(power(n), 2, 512) {
			checkWide(t, v)
			checkWide(t, minus(minus(power(512), small(1)), v))
		}
	}
	for _, v := range many() {
		checkWide(t, v)
		checkWide(t, times(v, power(256)))
		checkWide(t, plus(times(v, power(256)), v))
	}
	for i := range 3000 {
		checkWide(t, integer(sample(i, 64)))
	}
}

// P10.1: each bit of the 64 bytes counts: alone, missing and in any company.
func TestEveryBitOfWide(t *testing.T) {
	for _, s := range []string{zeros(64), ones(64), sample(1, 64)} {
		first := wideOf(t, s)
		for n := range 512 {
			if wideOf(t, flipped(s, n)) == first {
				t.Errorf("bit %d of %x does not count", n, s)
			}
			checkWide(t, integer(flipped(s, n)))
		}
	}
}

// P10.1: Right of integers of each kind: of those below L and of no others.
func TestRight(t *testing.T) {
	for _, v := range append(many(), near(order(), 300, 256)...) {
		if got := scalar.Right(narrow(v)); got != (v.Cmp(order()) < 0) {
			t.Errorf("Right of %x: %v", narrow(v), got)
		}
	}
	for _, n := range multiples() {
		for _, v := range near(times(n, order()), 1, 256) {
			if got := scalar.Right(narrow(v)); got != (v.Cmp(order()) < 0) {
				t.Errorf("Right of %x: %v", narrow(v), got)
			}
		}
	}
}

// P10.1: Right of what differs from L - 1, L and 2^252 in a single bit.
func TestRightOfEveryBit(t *testing.T) {
	for _, v := range []*big.Int{minus(order(), small(1)), order(), power(252), minus(power(252), small(1)), small(0)} {
		for n := range 256 {
			s := flipped(narrow(v), n)
			if got := scalar.Right(s); got != (integer(s).Cmp(order()) < 0) {
				t.Errorf("Right of %x: %v", s, got)
			}
		}
	}
}

// lengths is those of right and of wrong texts.
func lengths() []int {
	out := []int{95, 96, 97, 127, 128, 255, 256, 256 + 32, 256 + 64, 65536, 65536 + 32, 65536 + 64}
	for n := range 68 {
		out = append(out, n)
	}
	return out
}

// texts is some of n bytes, also some that are right numbers as far as they go.
func texts(n int) []string {
	return []string{sample(n, n), zeros(n), ones(n), ("\x01" + zeros(n))[:n]}
}

// P10.1: Wide of any other length is refused, and Right of any other is false,
// however small the integer is.
func TestWrongLengthsOfWideAndRight(t *testing.T) {
	for _, n := range lengths() {
		for _, s := range texts(n) {
			got, e := scalar.Wide(s)
			if n == 64 {
				check(t, "64 bytes", got, e, integer(s))
			} else if got != "" || e != api.ErrArg {
				t.Errorf("Wide of %d bytes: %x, %v", n, got, e)
			}
			if want := n == 32 && integer(s).Cmp(order()) < 0; scalar.Right(s) != want {
				t.Errorf("Right of %d bytes: %v", n, !want)
			}
		}
	}
	below := narrow(minus(order(), small(1)))
	for _, s := range []string{below[:31], below[1:], below + "\x00", "\x00" + below, below + zeros(32), below + below} {
		if scalar.Right(s) {
			t.Errorf("Right of %x", s)
		}
	}
}

// P10.2: MulAdd is refused if any of its texts has any other length, each alone
// and all at once.
func TestWrongLengthsOfMulAdd(t *testing.T) {
	refused := func(a, b, c string) {
		if got, e := scalar.MulAdd(a, b, c); got != "" || e != api.ErrArg {
			t.Errorf("%d, %d and %d bytes: %x, %v", len(a), len(b), len(c), got, e)
		}
	}
	for _, n := range lengths() {
		if n == 32 {
			continue
		}
		for _, s := range texts(n) {
			for _, u := range texts(32) {
				refused(s, u, u)
				refused(u, s, u)
				refused(u, u, s)
				refused(s, s, u)
				refused(s, u, s)
				refused(u, s, s)
				refused(s, s, s)
			}
		}
	}
}

// P10.2: lengths at the borders in all threes; three of 32 bytes alone are
// right.
func TestLengthsInThrees(t *testing.T) {
	some := []int{0, 1, 31, 32, 33, 63, 64, 65, 96}
	for _, n := range some {
		for _, m := range some {
			for _, k := range some {
				a, b, c := sample(1, n), sample(2, m), sample(3, k)
				got, e := scalar.MulAdd(a, b, c)
				if n == 32 && m == 32 && k == 32 {
					check(t, "32 bytes", got, e, plus(times(integer(a), integer(b)), integer(c)))
				} else if got != "" || e != api.ErrArg {
					t.Errorf("%d, %d and %d bytes: %x, %v", n, m, k, got, e)
				}
			}
		}
	}
}

// P10.2: numbers of each kind in all threes.
func TestThrees(t *testing.T) {
	for _, a := range few() {
		for _, b := range few() {
			for _, c := range named() {
				checkMulAdd(t, a, b, c)
			}
		}
	}
}

// P10.2: numbers beside every power of 2, in each of the three places.
func TestThreesBesidePowers(t *testing.T) {
	partners := []*big.Int{small(1), minus(order(), small(1)), minus(power(256), small(1)), integer(sample(1, 32))}
	for _, v := range many() {
		for _, w := range append(partners, v) {
			checkMulAdd(t, v, w, partners[3])
			checkMulAdd(t, w, v, partners[1])
			checkMulAdd(t, w, partners[2], v)
		}
	}
}

// P10.2: numbers without a pattern.
func TestThreesWithoutPattern(t *testing.T) {
	for i := range 3000 {
		s := sample(i, 96)
		checkMulAdd(t, integer(s[:32]), integer(s[32:64]), integer(s[64:]))
	}
}

// P10.2: sums that come to a multiple of L, and to a few less and more, with c
// below L and beyond it.
func TestSumsBesideMultiples(t *testing.T) {
	for i, a := range many() {
		b := integer(sample(i, 32))
		for d := int64(-2); d <= 2; d++ {
			c := least(plus(minus(small(0), times(a, b)), small(d)))
			checkMulAdd(t, a, b, c)
			checkMulAdd(t, a, b, plus(c, times(small(14), order())))
		}
	}
}

// P10.2: sums of which every bit carries into the next one, up to the highest,
// and products that are all bits.
func TestCarriesAllTheWay(t *testing.T) {
	for n := range uint(257) {
		all := minus(power(n), small(1))
		checkMulAdd(t, small(1), all, small(1))
		checkMulAdd(t, all, small(1), all)
		checkMulAdd(t, small(0), all, all)
		checkMulAdd(t, all, all, minus(power(256), small(1)))
		for m := range uint(9) {
			if n+m <= 256 {
				high := minus(power(n+m), power(m))
				checkMulAdd(t, high, all, small(1))
				checkMulAdd(t, high, small(1), power(m))
			}
		}
	}
	for n := uint(1); n <= 128; n *= 2 {
		comb := new(big.Int).Div(minus(power(256), small(1)), minus(power(n), small(1)))
		checkMulAdd(t, comb, minus(power(n), small(1)), small(0))
		checkMulAdd(t, comb, minus(power(n), small(1)), small(1))
		checkMulAdd(t, comb, comb, comb)
	}
}

// P10.2: each bit of each text counts.
func TestEveryBitOfMulAdd(t *testing.T) {
	for _, s := range [][3]string{{sample(1, 32), sample(2, 32), sample(3, 32)}, {ones(32), ones(32), ones(32)}, {zeros(32), ones(32), zeros(32)}} {
		for place := range 3 {
			for n := range 256 {
				u := s
				u[place] = flipped(u[place], n)
				got, e := scalar.MulAdd(u[0], u[1], u[2])
				check(t, "a bit", got, e, plus(times(integer(u[0]), integer(u[1])), integer(u[2])))
			}
		}
	}
}

// P10.2: the three places are not the same: which one is added counts.
func TestPlaces(t *testing.T) {
	two, three, five := "\x02"+zeros(31), "\x03"+zeros(31), "\x05"+zeros(31)
	for _, c := range []struct {
		a, b, c string
		want    byte
	}{{two, three, five, 11}, {three, two, five, 11}, {two, five, three, 13}, {five, two, three, 13}, {three, five, two, 17}, {five, three, two, 17}} {
		if got := mulAdd(t, c.a, c.b, c.c); got != string([]byte{c.want})+zeros(31) {
			t.Errorf("%d %d + %d: %x", c.a[0], c.b[0], c.c[0], got)
		}
	}
}

// P10.3: a and b may be exchanged, whatever c is.
func TestExchange(t *testing.T) {
	for i, a := range few() {
		for _, b := range few() {
			c := sample(i, 32)
			if mulAdd(t, narrow(a), narrow(b), c) != mulAdd(t, narrow(b), narrow(a), c) {
				t.Errorf("%x and %x may not be exchanged", a, b)
			}
		}
	}
}

// P10.3: once a right number and nothing more is that number; once any other
// one is the right one that Wide tells.
func TestOnce(t *testing.T) {
	one, right := "\x01"+zeros(31), 0
	for _, v := range append(many(), near(order(), 40, 256)...) {
		s := narrow(v)
		got := mulAdd(t, one, s, zeros(32))
		if scalar.Right(s) {
			right++
		}
		if (got == s) != scalar.Right(s) || got != wideOf(t, s+zeros(32)) {
			t.Errorf("once %x: %x", s, got)
		}
	}
	if right < 300 || right > len(many()) {
		t.Errorf("%d right numbers", right)
	}
}

// P10.3: Right is true of every result, and a result is its own remainder. All
// other tests that go through check hold the former, too.
func TestResultsAreRight(t *testing.T) {
	for i := range 1000 {
		s := sample(i, 64)
		for _, got := range []string{wideOf(t, s), mulAdd(t, s[:32], s[32:], s[16:48])} {
			if !scalar.Right(got) || wideOf(t, got+zeros(32)) != got {
				t.Errorf("%x is not right", got)
			}
		}
	}
}

// P10.1, P10.2: Wide is the high half times 2^256, and the low half.
func TestWideIsMulAdd(t *testing.T) {
	shift := wideOf(t, zeros(32)+"\x01"+zeros(31))
	for i := range 500 {
		s := sample(i, 64)
		if got, want := mulAdd(t, shift, s[32:], s[:32]), wideOf(t, s); got != want {
			t.Errorf("Wide(%x): %x, not %x", s, want, got)
		}
	}
}

// signed is what the second half of a signature with Ed25519 comes to, given
// its first half.
func signed(t *testing.T, seed, public, text, first string) string {
	t.Helper()
	digest := sha512.Sum512([]byte(seed))
	digest[0] &= 248
	digest[31] = digest[31]&63 | 64
	sum := func(s string) string {
		d := sha512.Sum512([]byte(s))
		return wideOf(t, string(d[:]))
	}
	return mulAdd(t, sum(first+public+text), string(digest[:32]), sum(string(digest[32:])+text))
}

// P10.1, P10.2: signatures that RFC 8032 publishes (7.1), whose second halves
// are a product and a sum modulo L.
func TestPublishedSignatures(t *testing.T) {
	for _, c := range []struct{ seed, public, text, signature string }{
		{"9d61b19deffd5a60ba844af492ec2cc44449c5697b326919703bac031cae7f60", "d75a980182b10ab7d54bfed3c964073a0ee172f3daa62325af021a68f707511a", "", "e5564300c360ac729086e2cc806e828a84877f1eb8e5d974d873e065224901555fb8821590a33bacc61e39701cf9b46bd25bf5f0595bbe24655141438e7a100b"},
		{"4ccd089b28ff96da9db6c346ec114e0f5b8a319f35aba624da8cf6ed4fb8a6fb", "3d4017c3e843895a92b70aa74d1b7ebc9c982ccf2ec4968cc0cd55f12af4660c", "72", "92a009a9f0d4cab8720e820b5f642540a2b27b5416503f8fb3762223ebdb69da085ac1e43e15996e458f3613d0f11d8c387b2eaeb4302aeeb00d291612bb0c00"},
		{"c5aa8df43f9f837bedb7442f31dcb7b166d38535076f094b85ce3a2e0b4458f7", "fc51cd8e6218a1a38da47ed00230f0580816ed13ba3303ac5deb911548908025", "af82", "6291d657deec24024827e69c3abe01a30ce548a284743a445e3680d7db5ac3ac18ff9b538d16f290ae67f760984dc6594a7c15e9716ed28dc027beceea1ec40a"},
	} {
		signature := unhex(t, c.signature)
		got := signed(t, unhex(t, c.seed), unhex(t, c.public), unhex(t, c.text), signature[:32])
		if got != signature[32:] || !scalar.Right(signature[32:]) {
			t.Errorf("%x, not %x", got, signature[32:])
		}
	}
}

// P10.1, P10.2: the same of signatures that the Go library answers.
func TestSignaturesOfLibrary(t *testing.T) {
	for i := range 200 {
		seed, text := sample(i, 32), sample(1000+i, i)
		key := ed25519.NewKeyFromSeed([]byte(seed))
		signature := string(ed25519.Sign(key, []byte(text)))
		if got := signed(t, seed, string(key[32:]), text, signature[:32]); got != signature[32:] {
			t.Errorf("%x, not %x", got, signature[32:])
		}
	}
}

// R2: the arguments and what lies behind them stay as they are, and an answer
// is memory of its own.
func TestNothingIsShared(t *testing.T) {
	memory := []byte(sample(1, 200))
	text := func(at, n int) string { return unsafe.String(&memory[at], n) }
	all := func() []string {
		scalar.Right(text(10, 32))
		below := mulAdd(t, text(10, 32), text(42, 32), text(80, 32))
		return []string{wideOf(t, text(100, 64)), below, mulAdd(t, "\x01"+zeros(31), below, zeros(32))}
	}
	first, again := all(), all()
	if string(memory) != sample(1, 200) {
		t.Error("an argument has changed")
	}
	want := strings.Join(first, "")
	clear(memory)
	for i := range first {
		if unsafe.StringData(first[i]) == unsafe.StringData(again[i]) || unsafe.StringData(first[1]) == unsafe.StringData(first[2]) {
			t.Error("two answers share memory")
		}
	}
	if strings.Join(first, "") != want || strings.Join(again, "") != want {
		t.Error("an answer has changed with an argument")
	}
}

// R3: a call leaves nothing behind that another one would see, be it ahead of
// it or at the same time.
func TestCallsAreApart(t *testing.T) {
	all := func(i int) string {
		s := sample(i, 96)
		out, _ := scalar.MulAdd(s[:32], s[32:64], s[64:])
		sum, _ := scalar.Wide(s[:64])
		return out + sum
	}
	want := make([]string, 8)
	for i := range want {
		want[i] = all(i)
		scalar.Wide("short")
		scalar.MulAdd(ones(32), ones(32), "short")
		scalar.Right(ones(32))
	}
	var both sync.WaitGroup
	for i := range want {
		both.Go(func() {
			for range 50 {
				if got := all(i); got != want[i] {
					t.Errorf("%x, not %x", got, want[i])
				}
			}
		})
	}
	both.Wait()
}

func BenchmarkWide(b *testing.B) {
	s := sample(1, 64)
	for b.Loop() {
		wideOf(b, s)
	}
}

func BenchmarkMulAdd(b *testing.B) {
	s := sample(1, 96)
	for b.Loop() {
		mulAdd(b, s[:32], s[32:64], s[64:])
	}
}
