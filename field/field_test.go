package field_test

import (
	"encoding/hex"
	"math"
	"math/big"
	"math/rand"
	"slices"
	"strings"
	"testing"
	"unsafe"

	"cresset/api"
	"cresset/field"
)

// sample is n bytes of all values, without a short period; no two seeds have
// the same.
func sample(seed, n int) string {
	b := make([]byte, n)
	rand.New(rand.NewSource(int64(seed))).Read(b)
	return string(b)
}

func unhex(t *testing.T, s string) string {
	t.Helper()
	b, err := hex.DecodeString(s)
	if err != nil {
		t.Fatal(err)
	}
	return string(b)
}

func small(n int64) *big.Int { return big.NewInt(n) }

func power(n uint) *big.Int { return new(big.Int).Lsh(small(1), n) }

func plus(a, b *big.Int) *big.Int  { return new(big.Int).Add(a, b) }
func minus(a, b *big.Int) *big.Int { return new(big.Int).Sub(a, b) }
func times(a, b *big.Int) *big.Int { return new(big.Int).Mul(a, b) }

func prime() *big.Int { return minus(power(255), small(19)) }

// least is v modulo p, also for a v below 0.
func least(v *big.Int) *big.Int { return new(big.Int).Mod(v, prime()) }

// raised is v to the power e, modulo p.
func raised(v, e *big.Int) *big.Int { return new(big.Int).Exp(v, e, prime()) }

// reversed is s with the last byte first.
func reversed(s string) string {
	b := []byte(s)
	slices.Reverse(b)
	return string(b)
}

// integer is what s encodes, and encoded is 32 bytes for a v below 2^256.
func integer(s string) *big.Int { return new(big.Int).SetBytes([]byte(reversed(s))) }

func encoded(v *big.Int) string {
	return reversed(string(v.FillBytes(make([]byte, 32))))
}

func of(t *testing.T, s string) field.Num {
	t.Helper()
	a, e := field.Of(s)
	if e != api.OK {
		t.Fatalf("Of(%x): %v", s, e)
	}
	return a
}

// num is v modulo p as a Num.
func num(t *testing.T, v *big.Int) field.Num {
	t.Helper()
	return of(t, encoded(least(v)))
}

// check holds a result against an integer, modulo p: its encoding, and that it
// is equal as a struct to the same number that was come by in another way.
func check(t *testing.T, what string, got field.Num, want *big.Int) {
	t.Helper()
	if s := got.Bytes(); s != encoded(least(want)) {
		t.Errorf("%s: %x, not %x", what, s, encoded(least(want)))
	}
	if got != num(t, want) {
		t.Errorf("%s: the struct of %x is another one", what, got.Bytes())
	}
}

// near is v and the integers up to d below and above, as far as 32 bytes hold
// them.
func near(v *big.Int, d int64) []*big.Int {
	var out []*big.Int
	for i := -d; i <= d; i++ {
		if w := plus(v, small(i)); w.Sign() >= 0 && w.BitLen() <= 256 {
			out = append(out, w)
		}
	}
	return out
}

// some is integers of 32 bytes without a pattern.
func some(n int) []*big.Int {
	var out []*big.Int
	for i := range n {
		out = append(out, integer(sample(i, 32)))
	}
	return out
}

// few is a number of each kind that the document names, and some more: few
// enough to be taken in pairs.
func few() []*big.Int {
	out := some(12)
	for _, v := range []*big.Int{small(0), prime(), power(255), power(256)} {
		out = append(out, near(v, 2)...)
	}
	out = append(out, small(19), small(38), minus(prime(), small(19)), plus(prime(), small(19)))
	for _, n := range []uint{26, 51, 64, 102, 128, 153, 192, 204, 254} {
		out = append(out, near(power(n), 1)...)
		out = append(out, minus(prime(), power(n)), minus(power(255), power(n)))
	}
	return append(out, half(), plus(half(), small(1)))
}

// half is (p - 1)/2.
func half() *big.Int { return new(big.Int).Rsh(prime(), 1) }

// many is few and the integers beside each power of 2, beside p less that, and
// of any bits alone.
func many() []*big.Int {
	out := append(few(), some(200)...)
	for _, v := range []*big.Int{small(0), prime(), power(255), power(256)} {
		out = append(out, near(v, 40)...)
	}
	for n := range uint(256) {
		out = append(out, near(power(n), 1)...)
		if n < 255 {
			out = append(out, near(minus(prime(), power(n)), 1)...)
		}
		out = append(out, minus(minus(power(256), small(1)), power(n)))
	}
	return out
}

// P8.1: Of of the integers that the document names, written out.
func TestOfAtTheEdges(t *testing.T) {
	zeros, ones := strings.Repeat("\x00", 32), strings.Repeat("\xff", 32)
	p := "\xed" + ones[:30] + "\x7f"
	for _, c := range []struct{ in, want string }{
		{zeros, zeros},
		{"\x01" + zeros[1:], "\x01" + zeros[1:]},
		{"\xec" + p[1:], "\xec" + p[1:]},
		{p, zeros},
		{"\xee" + p[1:], "\x01" + zeros[1:]},
		{ones[:31] + "\x7f", "\x12" + zeros[1:]},
		{zeros[:31] + "\x80", "\x13" + zeros[1:]},
		{"\x01" + zeros[:30] + "\x80", "\x14" + zeros[1:]},
		{"\xd9" + ones[1:], "\xec" + p[1:]},
		{"\xda" + ones[1:], zeros},
		{"\xdb" + ones[1:], "\x01" + zeros[1:]},
		{ones, "\x25" + zeros[1:]},
	} {
		if got := of(t, c.in).Bytes(); got != c.want {
			t.Errorf("Of(%x): %x, not %x", c.in, got, c.want)
		}
	}
}

// P8.1: Of of integers of all sizes, each with its own value, and Bytes, which
// Of takes back.
func TestOfAndBytes(t *testing.T) {
	for _, v := range many() {
		a := of(t, encoded(v))
		check(t, "Of("+v.String()+")", a, v)
		if again := of(t, a.Bytes()); again != a || len(a.Bytes()) != 32 {
			t.Errorf("%s, and there and back: %x, %x", v, a.Bytes(), again.Bytes())
		}
		if v.Cmp(prime()) < 0 && a.Bytes() != encoded(v) {
			t.Errorf("%s is below p, and comes back as %x", v, a.Bytes())
		}
	}
}

// P8.1: each bit counts: alone, and missing.
func TestEveryBitOfOf(t *testing.T) {
	all := minus(power(256), small(1))
	for n := range uint(256) {
		b := make([]byte, 32)
		b[n/8] = 1 << (n % 8)
		check(t, "one bit", of(t, string(b)), power(n))
		for i := range b {
			b[i] = ^b[i]
		}
		check(t, "all bits but one", of(t, string(b)), minus(all, power(n)))
	}
}

// P8.1: Of of any other length is refused, and answers 0.
func TestWrongLengths(t *testing.T) {
	lengths := []int{64, 127, 128, 255, 256, 256 + 32, 65536, 65536 + 32}
	for n := range 70 {
		lengths = append(lengths, n)
	}
	for _, n := range lengths {
		for _, s := range []string{sample(n, n), strings.Repeat("\x00", n), strings.Repeat("\xff", n)} {
			a, e := field.Of(s)
			if n == 32 {
				if e != api.OK {
					t.Errorf("32 bytes: %v", e)
				}
			} else if e != api.ErrArg || a != (field.Num{}) {
				t.Errorf("%d bytes: %x, %v", n, a.Bytes(), e)
			}
		}
	}
}

// P8.1: Small of every kind of int.
func TestSmall(t *testing.T) {
	list := []int{math.MaxInt, math.MaxInt - 1, math.MinInt, math.MinInt + 1, math.MinInt + 19, 121665, -121665}
	for n := -300; n <= 300; n++ {
		list = append(list, n)
	}
	for v := 1; v > 0; v <<= 1 {
		list = append(list, v-1, v, v+1, -v-1, -v, 1-v)
	}
	for i := range 200 {
		list = append(list, int(integer(sample(i, 8)).Uint64()))
	}
	for _, n := range list {
		check(t, "Small("+small(int64(n)).String()+")", field.Small(n), small(int64(n)))
	}
}

// P8.1: the examples, written out.
func TestSmallWrittenOut(t *testing.T) {
	zeros, ones := strings.Repeat("\x00", 31), strings.Repeat("\xff", 30)+"\x7f"
	for n, want := range map[int]string{0: "\x00" + zeros, 1: "\x01" + zeros, 255: "\xff" + zeros, 256: "\x00\x01" + zeros[1:], -1: "\xec" + ones, -237: "\x00" + ones, -238: "\xff\xfe" + ones[1:]} {
		if got := field.Small(n).Bytes(); got != want {
			t.Errorf("Small(%d): %x", n, got)
		}
	}
}

// P8.1, P8.2, P8.3: the zero value is 0 in every call.
func TestZeroValue(t *testing.T) {
	var zero field.Num
	check(t, "the zero value", zero, small(0))
	if zero != field.Small(0) || zero.Bytes() != strings.Repeat("\x00", 32) {
		t.Error("the zero value is not 0")
	}
	for _, v := range few() {
		a := num(t, v)
		check(t, "0 + a", zero.Add(a), v)
		check(t, "a + 0", a.Add(zero), v)
		check(t, "0 - a", zero.Sub(a), minus(small(0), v))
		check(t, "a - 0", a.Sub(zero), v)
		check(t, "0 a", zero.Mul(a), small(0))
		check(t, "a 0", a.Mul(zero), small(0))
	}
	check(t, "0 + 0", zero.Add(zero), small(0))
	check(t, "0 - 0", zero.Sub(zero), small(0))
	check(t, "0 0", zero.Mul(zero), small(0))
	check(t, "the inverse of 0", zero.Inv(), small(0))
	root, is := zero.Root()
	check(t, "the root of 0", root, small(0))
	if !is {
		t.Error("0 has no root")
	}
}

// checkPair holds the sum, the difference and the product of two numbers
// against the integers.
func checkPair(t *testing.T, a, b field.Num, v, w *big.Int) {
	t.Helper()
	check(t, v.String()+" + "+w.String(), a.Add(b), plus(v, w))
	check(t, v.String()+" - "+w.String(), a.Sub(b), minus(v, w))
	check(t, v.String()+" "+w.String(), a.Mul(b), times(v, w))
}

// P8.2: sums, differences and products of numbers of each kind, in pairs.
func TestPairs(t *testing.T) {
	for _, v := range few() {
		for _, w := range few() {
			checkPair(t, num(t, v), num(t, w), v, w)
		}
	}
}

// P8.2: the same of numbers beside every power of 2.
func TestPairsBesidePowers(t *testing.T) {
	partners := []*big.Int{small(2), small(38), minus(prime(), small(1)), half(), integer(sample(1, 32)), integer(sample(2, 32))}
	for _, v := range many() {
		for _, w := range append(partners, v) {
			checkPair(t, num(t, v), num(t, w), v, w)
			checkPair(t, num(t, w), num(t, v), w, v)
		}
	}
}

// P8.2: sums that come to p, to 2^255, and to a few less and more.
func TestSumsBesideThePrime(t *testing.T) {
	for _, v := range many() {
		v = least(v)
		for _, goal := range append(near(prime(), 3), near(power(255), 3)...) {
			w := minus(goal, v)
			if w.Sign() >= 0 && w.Cmp(prime()) < 0 {
				check(t, "a sum that is "+goal.String(), num(t, v).Add(num(t, w)), goal)
			}
		}
	}
	last := minus(prime(), small(1))
	check(t, "the greatest sum", num(t, last).Add(num(t, last)), minus(prime(), small(2)))
}

// P8.2: differences of nearly the same numbers, of 0 and not, and below 0.
func TestDifferencesBesideZero(t *testing.T) {
	for _, v := range many() {
		for d := int64(-20); d <= 20; d++ {
			got := num(t, v).Sub(num(t, plus(v, small(d))))
			check(t, "a difference", got, small(-d))
		}
	}
}

// P8.2: products that are beside a multiple of p, of 2^255 or of 2^256 as
// integers.
func TestProductsBesideMultiples(t *testing.T) {
	for _, multiple := range []int64{1, 2, 3, 18, 19, 20, 36, 37, 38, 39, 1000003} {
		for _, base := range []*big.Int{prime(), power(255), power(256)} {
			goal := times(base, small(multiple))
			for d := int64(-40); d <= 40; d++ {
				goal := plus(goal, small(d))
				for w := int64(1); w <= 60; w++ {
					v, rest := new(big.Int).DivMod(goal, small(w), new(big.Int))
					if rest.Sign() == 0 && v.Cmp(prime()) < 0 {
						check(t, "a product that is "+goal.String(), num(t, v).Mul(field.Small(int(w))), goal)
					}
				}
			}
		}
	}
}

// P8.2: products that come to 0, p - 1 and beside them.
func TestProductsBesideZero(t *testing.T) {
	for _, v := range many() {
		if least(v).Sign() == 0 {
			continue
		}
		inverse := new(big.Int).ModInverse(least(v), prime())
		for d := int64(-20); d <= 20; d++ {
			w := times(inverse, small(d))
			check(t, "a product", num(t, v).Mul(num(t, w)), small(d))
		}
	}
}

// P8.2: the power p - 2, which is the inverse of all but 0.
func TestInv(t *testing.T) {
	for _, v := range many() {
		a := num(t, v)
		inverse := a.Inv()
		check(t, "the inverse of "+v.String(), inverse, raised(v, minus(prime(), small(2))))
		want := small(1)
		if least(v).Sign() == 0 {
			want = small(0)
		}
		check(t, "a number and its inverse, "+v.String(), a.Mul(inverse), want)
		check(t, "there and back, "+v.String(), inverse.Inv(), v)
	}
}

// P8.2: the inverses that the document names, as integers.
func TestInvAtTheEdges(t *testing.T) {
	check(t, "0", field.Small(0).Inv(), small(0))
	check(t, "1", field.Small(1).Inv(), small(1))
	check(t, "2", field.Small(2).Inv(), plus(half(), small(1)))
	check(t, "p - 1", field.Small(-1).Inv(), small(-1))
	check(t, "(p - 1)/2", num(t, half()).Inv(), small(-2))
	check(t, "2 and its inverse", field.Small(2).Inv().Mul(field.Small(2)), small(1))
}

// expectedRoot is the document's words about Root, and how often x was
// multiplied and turned.
func expectedRoot(a *big.Int) (x *big.Int, is, multiplied, turned bool) {
	a = least(a)
	x = raised(a, new(big.Int).Rsh(plus(prime(), small(3)), 3))
	if least(times(x, x)).Cmp(a) != 0 {
		multiplied = true
		x = least(times(x, raised(small(2), new(big.Int).Rsh(minus(prime(), small(1)), 2))))
	}
	if least(times(x, x)).Cmp(a) != 0 {
		return small(0), false, multiplied, false
	}
	if x.Bit(0) == 1 {
		return least(minus(small(0), x)), true, multiplied, true
	}
	return x, true, multiplied, false
}

// checkRoot holds Root of v against the document's words.
func checkRoot(t *testing.T, v *big.Int) {
	t.Helper()
	want, is, _, _ := expectedRoot(v)
	root, found := num(t, v).Root()
	check(t, "the root of "+v.String(), root, want)
	if found != is {
		t.Errorf("%s has a root: %v", v, found)
	}
}

// P8.3: numbers of every kind, their squares, and what is beside a square by
// its sign or by the factor 2, which has no root.
func TestRoots(t *testing.T) {
	for _, v := range many() {
		square := least(times(v, v))
		for _, w := range []*big.Int{v, square, minus(small(0), square), times(square, small(2))} {
			checkRoot(t, w)
		}
	}
}

// P8.3: the root is even, and it is the number squared or 0 minus it.
func TestRootsOfSquares(t *testing.T) {
	for _, v := range many() {
		a := num(t, v)
		root, is := a.Mul(a).Root()
		if !is || root.Bytes()[0]%2 != 0 {
			t.Errorf("the root of the square of %s: %x, %v", v, root.Bytes(), is)
		}
		even := least(v)
		if even.Bit(0) == 1 {
			even = minus(prime(), even)
		}
		check(t, "the root of the square of "+v.String(), root, even)
	}
}

// P8.3: squares whose x is right at once and those where it is multiplied, each
// with x even and odd, and numbers that have no root.
func TestEveryKindOfRoot(t *testing.T) {
	var kinds [2][2]int
	none := 0
	for v := int64(0); v < 400; v++ {
		_, is, multiplied, turned := expectedRoot(small(v))
		checkRoot(t, small(v))
		if is {
			kinds[number(multiplied)][number(turned)]++
		} else {
			none++
		}
	}
	for _, n := range []int{kinds[0][0], kinds[0][1], kinds[1][0], kinds[1][1], none} {
		if n < 10 {
			t.Errorf("kinds of roots: %v, and %d without one", kinds, none)
		}
	}
}

func number(is bool) int {
	if is {
		return 1
	}
	return 0
}

// P8.3: the roots that the document names, as integers.
func TestRootsAtTheEdges(t *testing.T) {
	for n, want := range map[int]int64{0: 0, 1: -1, 4: 2, 9: -3, 16: 4, 121: -11, 65536: 256} {
		root, is := field.Small(n).Root()
		check(t, small(int64(n)).String(), root, small(want))
		if !is {
			t.Errorf("%d has no root", n)
		}
	}
	for _, n := range []int{2, -2, 8, 18, 32} {
		if root, is := field.Small(n).Root(); is || root != (field.Num{}) {
			t.Errorf("the root of %d: %x, %v", n, root.Bytes(), is)
		}
	}
}

// P8.2, P8.3: numbers of RFC 8032 and RFC 7748: the root of p - 1, the factor of
// the curve and the base point's two coordinates, which are roots and quotients.
func TestPublishedNumbers(t *testing.T) {
	root, is := field.Small(-1).Root()
	if want := unhex(t, "b0a00e4a271beec478e42fad0618432fa7d7fb3d99004d2b0bdfc14f8024832b"); root.Bytes() != want || !is {
		t.Errorf("the root of p - 1: %x, %v", root.Bytes(), is)
	}
	d := field.Small(-121665).Mul(field.Small(121666).Inv())
	if want := unhex(t, "a3785913ca4deb75abd841414d0a700098e879777940c78c73fe6f2bee6c0352"); d.Bytes() != want {
		t.Errorf("d: %x", d.Bytes())
	}
	one, y := field.Small(1), field.Small(4).Mul(field.Small(5).Inv())
	if got := y.Bytes(); got != "\x58"+strings.Repeat("\x66", 31) {
		t.Errorf("y: %x", got)
	}
	yy := y.Mul(y)
	x, is := yy.Sub(one).Mul(d.Mul(yy).Add(one).Inv()).Root()
	if want := unhex(t, "1ad5258f602d56c9b2a7259560c72c695cdcd6fd31e2a4c0fe536ecdd3366921"); x.Bytes() != want || !is {
		t.Errorf("x: %x, %v", x.Bytes(), is)
	}
	u := field.Small(9)
	v, is := u.Mul(u).Mul(u.Add(field.Small(486662))).Add(u).Root()
	want, _ := new(big.Int).SetString("14781619447589544791020593568409986887264606134616475288964881837755586237401", 10)
	check(t, "v", v, minus(small(0), want))
	if !is {
		t.Error("v is no root")
	}
}

// shared is the function X25519, as RFC 7748 writes it.
func shared(t *testing.T, secret, public string) string {
	k := []byte(secret)
	k[0] &= 248
	k[31] = k[31]&127 | 64
	u := of(t, public[:31]+string([]byte{public[31] & 127}))
	x2, z2, x3, z3 := field.Small(1), field.Small(0), u, field.Small(1)
	for bit := 254; bit >= 0; bit-- {
		swap := k[bit/8]>>(bit%8)&1 == 1
		if swap {
			x2, z2, x3, z3 = x3, z3, x2, z2
		}
		a, b := x2.Add(z2), x2.Sub(z2)
		aa, bb := a.Mul(a), b.Mul(b)
		e, da, cb := aa.Sub(bb), x3.Sub(z3).Mul(a), x3.Add(z3).Mul(b)
		x3, z3 = da.Add(cb), da.Sub(cb)
		x3, z3 = x3.Mul(x3), u.Mul(z3.Mul(z3))
		x2, z2 = aa.Mul(bb), e.Mul(aa.Add(field.Small(121665).Mul(e)))
		if swap {
			x2, z2, x3, z3 = x3, z3, x2, z2
		}
	}
	return x2.Mul(z2.Inv()).Bytes()
}

// P8.1, P8.2: the shared secrets that RFC 7748 publishes (5.2), which take some
// thousand sums, differences and products each.
func TestPublishedSecrets(t *testing.T) {
	for _, c := range []struct{ secret, public, want string }{
		{"a546e36bf0527c9d3b16154b82465edd62144c0ac1fc5a18506a2244ba449ac4", "e6db6867583030db3594c1a424b15f7c726624ec26b3353b10a903a6d0ab1c4c", "c3da55379de9c6908e94ea4df28d084f32eccf03491c71f754b4075577a28552"},
		{"4b66e9d4d1b4673c5ad22691957d6af5c11b6421e0ea01d42ca4169e7918ba0d", "e5210f12786811d3f4b7959d0538ae2c31dbe7106fc03c3efc4cd549c715a493", "95cbde9476e8907d7aade45cb4b873f88b595a68799fa152e6f8f7647aac7957"},
	} {
		if got := shared(t, unhex(t, c.secret), unhex(t, c.public)); got != unhex(t, c.want) {
			t.Errorf("%x", got)
		}
	}
	k, u := "\x09"+strings.Repeat("\x00", 31), "\x09"+strings.Repeat("\x00", 31)
	for range 1000 {
		k, u = shared(t, k, u), k
	}
	if k != unhex(t, "684cf59ba83309552800ef566f2f4d3c1c3887c49360e3875f2eb94d99532c51") {
		t.Errorf("after 1000 times: %x", k)
	}
}

// checkLaws holds the laws of the document against three numbers.
func checkLaws(t *testing.T, a, b, c field.Num) {
	t.Helper()
	for law, holds := range map[string]bool{
		"a + b = b + a":             a.Add(b) == b.Add(a),
		"a b = b a":                 a.Mul(b) == b.Mul(a),
		"(a + b) + c = a + (b + c)": a.Add(b).Add(c) == a.Add(b.Add(c)),
		"(a b) c = a (b c)":         a.Mul(b).Mul(c) == a.Mul(b.Mul(c)),
		"a (b + c) = a b + a c":     a.Mul(b.Add(c)) == a.Mul(b).Add(a.Mul(c)),
		"(a + b) - b = a":           a.Add(b).Sub(b) == a,
		"(a - b) + b = a":           a.Sub(b).Add(b) == a,
		"a 1 = a":                   a.Mul(field.Small(1)) == a && field.Small(1).Mul(a) == a,
	} {
		if !holds {
			t.Errorf("%s does not hold: %x, %x, %x", law, a.Bytes(), b.Bytes(), c.Bytes())
		}
	}
}

// P8.4: the laws, for numbers of each kind.
func TestLaws(t *testing.T) {
	var list []field.Num
	for _, v := range few() {
		list = append(list, num(t, v))
	}
	for _, a := range list {
		for i, b := range list {
			for _, c := range []field.Num{a, b, list[(3*i+7)%len(list)], field.Small(-1)} {
				checkLaws(t, a, b, c)
			}
		}
	}
}

// P8.4: the laws, for numbers without a pattern.
func TestLawsOfAnyNumbers(t *testing.T) {
	for i := range 5000 {
		s := sample(i, 96)
		checkLaws(t, of(t, s[:32]), of(t, s[32:64]), of(t, s[64:]))
	}
}

// P8.1, P8.2, P8.3: numbers that are equal are so as structs too, in whatever
// way they were come by.
func TestEqualNumbersAreEqualStructs(t *testing.T) {
	for _, v := range few() {
		if v.Cmp(prime()) >= 0 {
			continue
		}
		a, one := num(t, v), field.Small(1)
		list := []field.Num{a, a.Add(one).Sub(one), a.Sub(one).Add(one), a.Mul(one), a.Inv().Inv()}
		if w := plus(v, prime()); w.BitLen() <= 256 {
			list = append(list, of(t, encoded(w)))
		}
		if root, is := a.Root(); is {
			list = append(list, root.Mul(root))
		}
		for i, b := range list {
			if a != b || a == b.Add(one) {
				t.Errorf("%s, way %d: %x", v, i, b.Bytes())
			}
		}
	}
}

// R2: the numbers of a call stay as they are, and an answer is memory of its
// own.
func TestNothingIsShared(t *testing.T) {
	s, u := sample(1, 32), sample(2, 32)
	a, b := of(t, s), of(t, u)
	wantA, wantB := a.Bytes(), b.Bytes()
	a.Add(b)
	a.Sub(b)
	a.Mul(b)
	a.Inv()
	a.Root()
	if a.Bytes() != wantA || b.Bytes() != wantB || s != sample(1, 32) || u != sample(2, 32) {
		t.Error("an argument has changed")
	}
	if unsafe.StringData(a.Bytes()) == unsafe.StringData(a.Bytes()) {
		t.Error("two answers share memory")
	}
}

// R3: a call leaves nothing behind that another one would see.
func TestCallsAreApart(t *testing.T) {
	a, b := of(t, sample(1, 32)), of(t, sample(2, 32))
	all := func() string {
		root, _ := a.Mul(a).Root()
		return a.Add(b).Bytes() + a.Sub(b).Bytes() + a.Mul(b).Bytes() + a.Inv().Bytes() + root.Bytes() + field.Small(-5).Bytes()
	}
	first := all()
	b.Mul(b).Add(b).Inv().Root()
	field.Of("short")
	field.Small(math.MinInt).Sub(a).Bytes()
	if again := all(); again != first {
		t.Errorf("%x, then %x", first, again)
	}
}

func BenchmarkMul(b *testing.B) {
	x, _ := field.Of(sample(1, 32))
	for b.Loop() {
		x = x.Mul(x)
	}
}

func BenchmarkAdd(b *testing.B) {
	x, _ := field.Of(sample(1, 32))
	for b.Loop() {
		x = x.Add(x)
	}
}

func BenchmarkInv(b *testing.B) {
	x, _ := field.Of(sample(1, 32))
	for b.Loop() {
		x = x.Inv()
	}
}
