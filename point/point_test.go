package point_test

import (
	"crypto/ecdh"
	"crypto/ed25519"
	"crypto/sha512"
	"encoding/hex"
	"math/big"
	"math/rand"
	"slices"
	"strings"
	"sync"
	"testing"
	"unsafe"

	"cresset/api"
	"cresset/point"
)

// sample is n bytes of all values, without a short period; no two seeds have
// the same.
func sample(seed, n int) string {
	b := make([]byte, n)
	rand.New(rand.NewSource(int64(seed))).Read(b)
	return string(b)
}

func unhex(t testing.TB, s string) string {
	t.Helper()
	b, err := hex.DecodeString(s)
	if err != nil {
		t.Fatal(err)
	}
	return string(b)
}

// zeros and ones are n bytes of no bits and of all bits.
func zeros(n int) string { return strings.Repeat("\x00", n) }
func ones(n int) string  { return strings.Repeat("\xff", n) }

func small(n int64) *big.Int { return big.NewInt(n) }

func power(n uint) *big.Int { return new(big.Int).Lsh(small(1), n) }

func plus(a, b *big.Int) *big.Int  { return new(big.Int).Add(a, b) }
func minus(a, b *big.Int) *big.Int { return new(big.Int).Sub(a, b) }

func prime() *big.Int { return minus(power(255), small(19)) }

// times is a product modulo p, and inverse is a number's inverse.
func times(a, b *big.Int) *big.Int {
	v := new(big.Int).Mul(a, b)
	return v.Mod(v, prime())
}

func inverse(a *big.Int) *big.Int { return new(big.Int).ModInverse(a, prime()) }

// order is L, how many points the multiples of Base() are.
func order() *big.Int {
	v, _ := new(big.Int).SetString("27742317777372353535851937790883648493", 10)
	return plus(power(252), v)
}

// coefficient is the document's d.
func coefficient() *big.Int { return times(small(-121665), inverse(small(121666))) }

// reversed is s with the last byte first.
func reversed(s string) string {
	b := []byte(s)
	slices.Reverse(b)
	return string(b)
}

// integer is what s encodes, and encoded is 32 bytes for a v below 2^256.
func integer(s string) *big.Int { return new(big.Int).SetBytes([]byte(reversed(s))) }

func encoded(v *big.Int) string {
	return reversed(string(v.FillBytes(make([]byte, 32))))
}

// flipped is s with the n-th bit another one.
func flipped(s string, n int) string {
	b := []byte(s)
	b[n/8] ^= 1 << (n % 8)
	return string(b)
}

// pair is a point as the curve's equation has it, and what the points of this
// package are held against.
type pair struct{ x, y *big.Int }

// right tells whether the equation holds.
func (a pair) right() bool {
	xx, yy := times(a.x, a.x), times(a.y, a.y)
	v := minus(minus(yy, xx), plus(small(1), times(coefficient(), times(xx, yy))))
	return v.Mod(v, prime()).Sign() == 0
}

// sum is the sum of two points by the law of the curve, which divides.
func (a pair) sum(b pair) pair {
	all := times(coefficient(), times(times(a.x, b.x), times(a.y, b.y)))
	return pair{
		times(plus(times(a.x, b.y), times(b.x, a.y)), inverse(plus(small(1), all))),
		times(plus(times(a.y, b.y), times(a.x, b.x)), inverse(minus(small(1), all))),
	}
}

func (a pair) negative() pair { return pair{times(small(-1), a.x), a.y} }

// multiple is the point n times, from the lowest bit of n up.
func (a pair) multiple(n *big.Int) pair {
	out := pair{small(0), small(1)}
	for i := range n.BitLen() {
		if n.Bit(i) == 1 {
			out = out.sum(a)
		}
		a = a.sum(a)
	}
	return out
}

func (a pair) bytes() string {
	v := new(big.Int).Set(a.y)
	return encoded(v.SetBit(v, 255, a.x.Bit(0)))
}

// decoded is what the document's words make of a text.
func decoded(s string) (pair, api.Errno) {
	if len(s) != 32 {
		return pair{}, api.ErrArg
	}
	sign := integer(s).Bit(255)
	y := integer(s)
	y.SetBit(y, 255, 0)
	yy := times(y, y)
	x := times(minus(yy, small(1)), inverse(plus(times(coefficient(), yy), small(1))))
	x = x.ModSqrt(x, prime())
	if y.Cmp(prime()) >= 0 || x == nil || x.Sign() == 0 && sign == 1 {
		return pair{}, api.ErrKey
	}
	if x.Bit(0) != sign {
		x = times(small(-1), x)
	}
	return pair{x, y}, api.OK
}

// known is decoded for bytes of which a test knows that they are a point.
func known(t testing.TB, s string) pair {
	t.Helper()
	a, e := decoded(s)
	if e != api.OK || !a.right() || a.bytes() != s {
		t.Fatalf("%x is no point", s)
	}
	return a
}

// of is Of for such bytes.
func of(t testing.TB, s string) point.Point {
	t.Helper()
	p, e := point.Of(s)
	if e != api.OK {
		t.Fatalf("Of(%x): %v", s, e)
	}
	return p
}

// mul is Mul for a text of 32 bytes.
func mul(t testing.TB, p point.Point, n string) point.Point {
	t.Helper()
	q, e := p.Mul(n)
	if e != api.OK {
		t.Fatalf("Mul(%x): %v", n, e)
	}
	return q
}

// check holds the bytes of a point against what they should be.
func check(t *testing.T, what string, p point.Point, want string) {
	t.Helper()
	if got := p.Bytes(); got != want {
		t.Errorf("%s: %x, not %x", what, got, want)
	}
}

// checkOf holds Of against a text that has a point or has none.
func checkOf(t *testing.T, s string, want api.Errno) {
	t.Helper()
	p, e := point.Of(s)
	if e != want {
		t.Errorf("Of(%x): %v, not %v", s, e, want)
	}
	if want == api.OK {
		check(t, "Of", p, s)
	} else if p != point.Zero() {
		t.Errorf("Of(%x): %x beside an error", s, p.Bytes())
	}
}

func neutral() string { return "\x01" + zeros(31) }
func base() string    { return "\x58" + strings.Repeat("\x66", 31) }

// lowOrder is the bytes of the eight points whose multiples are eight at the
// most, in the order of the multiples of the second one.
func lowOrder(t testing.TB) []string {
	t.Helper()
	return []string{
		neutral(),
		unhex(t, "c7176a703d4dd84fba3c0b760d10670f2a2053fa2c39ccc64ec7fd7792ac037a"),
		zeros(31) + "\x80",
		unhex(t, "26e8958fc2b227b045c3f489f2ef98f0d5dfac05d3c63339b13802886d53fc05"),
		"\xec" + ones(30) + "\x7f",
		unhex(t, "26e8958fc2b227b045c3f489f2ef98f0d5dfac05d3c63339b13802886d53fc85"),
		zeros(32),
		unhex(t, "c7176a703d4dd84fba3c0b760d10670f2a2053fa2c39ccc64ec7fd7792ac03fa"),
	}
}

// multiples is the bytes of some multiples of Base(), small ones, great ones
// and some without a pattern, worked out in big integers.
func multiples(t testing.TB) []string {
	t.Helper()
	var out []string
	b := known(t, base())
	for n := range int64(5) {
		out = append(out, b.multiple(small(n)).bytes(), b.multiple(minus(order(), small(n+1))).bytes())
	}
	for i := range 4 {
		out = append(out, b.multiple(integer(sample(i, 32))).bytes())
	}
	return out
}

// found is the bytes of n points that lie anywhere on the curve.
func found(n int) []string {
	var out []string
	for i := 0; len(out) < n; i++ {
		s := sample(1000+i, 32)
		if _, e := decoded(s); e == api.OK {
			out = append(out, s)
		}
	}
	return out
}

// some is the bytes of points of each kind.
func some(t testing.TB) []string {
	t.Helper()
	return slices.Concat(lowOrder(t), multiples(t), found(6))
}

// P11.1, P11.2, P11.3: the chapter's examples.
func TestExamples(t *testing.T) {
	check(t, "Base", point.Base(), base())
	checkOf(t, zeros(32), api.OK)
	checkOf(t, "\x02"+zeros(31), api.ErrKey)
	check(t, "the order", mul(t, point.Base(), encoded(order())), neutral())
}

// P11.2: the zero value of the type and Zero() are the neutral element, and
// Base() is the point with y = 4/5 and the even x.
func TestPointsWithNames(t *testing.T) {
	var none point.Point
	check(t, "the zero value", none, neutral())
	check(t, "Zero", point.Zero(), neutral())
	if none != point.Zero() {
		t.Error("the zero value is not Zero()")
	}
	y := times(small(4), inverse(small(5)))
	if encoded(y) != base() {
		t.Errorf("4/5 is %x", encoded(y))
	}
	check(t, "Base", point.Base(), encoded(y))
	check(t, "Base and its negative", point.Base().Add(of(t, flipped(base(), 255))), neutral())
	if x := known(t, base()).x; x.Bit(0) != 0 {
		t.Errorf("x of Base is %x", x)
	}
}

// P11.1, P11.3: texts of any length but 32 bytes are refused, also those whose
// first or last 32 bytes are a right one.
func TestWrongLengths(t *testing.T) {
	lengths := []int{95, 96, 97, 127, 128, 255, 256, 256 + 32, 65536, 65536 + 32}
	for n := range 68 {
		lengths = append(lengths, n)
	}
	for _, n := range lengths {
		for _, s := range []string{zeros(n), ones(n), sample(n, n), (base() + zeros(n))[:n], (neutral() + sample(n, n))[:n], (zeros(n) + base())[32:]} {
			if n == 32 {
				_, want := decoded(s)
				checkOf(t, s, want)
				continue
			}
			checkOf(t, s, api.ErrArg)
			if p, e := point.Base().Mul(s); e != api.ErrArg || p != point.Zero() {
				t.Errorf("Mul of %d bytes: %x, %v", n, p.Bytes(), e)
			}
			if p, e := point.Zero().Mul(s); e != api.ErrArg || p != point.Zero() {
				t.Errorf("Mul of %d bytes of Zero(): %x, %v", n, p.Bytes(), e)
			}
		}
	}
}

// P11.1: the texts that the document's words single out, written out, with the
// highest bit of the last byte clear and set.
func TestTextsAtTheEdges(t *testing.T) {
	for _, c := range []struct {
		s          string
		clear, set api.Errno
	}{
		{zeros(32), api.OK, api.OK},                          // y is 0
		{"\x01" + zeros(31), api.OK, api.ErrKey},             // 1, to which x is 0
		{"\x02" + zeros(31), api.ErrKey, api.ErrKey},         // 2, no square root
		{"\x03" + zeros(31), api.OK, api.OK},                 // 3
		{"\x08" + zeros(31), api.ErrKey, api.ErrKey},         // 8, no square root
		{"\x12" + zeros(31), api.OK, api.OK},                 // 18
		{zeros(16) + "\x01" + zeros(15), api.OK, api.OK},     // 2^128
		{zeros(31) + "\x20", api.OK, api.OK},                 // 2^253
		{zeros(31) + "\x40", api.ErrKey, api.ErrKey},         // 2^254, no square root
		{ones(31) + "\x3f", api.OK, api.OK},                  // 2^254 - 1
		{base(), api.OK, api.OK},                             // Base() and its Neg
		{"\xe9" + ones(30) + "\x7f", api.OK, api.OK},         // p - 4
		{"\xea" + ones(30) + "\x7f", api.OK, api.OK},         // p - 3
		{"\xeb" + ones(30) + "\x7f", api.ErrKey, api.ErrKey}, // p - 2, no square root
		{"\xec" + ones(30) + "\x7f", api.OK, api.ErrKey},     // p - 1, to which x is 0
		{"\xed" + ones(30) + "\x7f", api.ErrKey, api.ErrKey}, // p
		{"\xee" + ones(30) + "\x7f", api.ErrKey, api.ErrKey}, // p + 1
		{"\xf0" + ones(30) + "\x7f", api.ErrKey, api.ErrKey}, // p + 3
		{ones(31) + "\x7f", api.ErrKey, api.ErrKey},          // 2^255 - 1
	} {
		checkOf(t, c.s, c.clear)
		checkOf(t, flipped(c.s, 255), c.set)
	}
}

// P11.1: from p on, nothing is a point, be there a root or not.
func TestTextsFromPOn(t *testing.T) {
	roots := 0
	for n := range int64(19) {
		s := encoded(plus(prime(), small(n)))
		checkOf(t, s, api.ErrKey)
		checkOf(t, flipped(s, 255), api.ErrKey)
		if _, e := point.Of(encoded(small(n))); e == api.OK {
			roots++
		}
	}
	if roots != 12 {
		t.Errorf("%d of the numbers below 19 have a root", roots)
	}
}

// P11.1: texts of each kind against the document's words in big integers:
// small ones, great ones, those beside a point and those without a pattern.
func TestTextsAgainstWords(t *testing.T) {
	var list []string
	for n := range int64(200) {
		list = append(list, encoded(small(n)), encoded(minus(prime(), small(n+1))), sample(int(n), 32))
	}
	for n := range 256 {
		list = append(list, flipped(base(), n), flipped(zeros(32), n), flipped(ones(32), n))
	}
	points := 0
	for _, s := range list {
		_, want := decoded(s)
		checkOf(t, s, want)
		_, want = decoded(flipped(s, 255))
		checkOf(t, flipped(s, 255), want)
		if want == api.OK {
			points++
		}
	}
	if points < len(list)/3 || points > len(list)*2/3 {
		t.Errorf("%d of %d texts are points", points, len(list))
	}
}

// P11.1: x is the even root if the highest bit is 0, and 0 minus it otherwise:
// the two points with the same y are each other's Neg, and have sums apart.
func TestTwoPointsOfOneY(t *testing.T) {
	for _, s := range some(t) {
		if known(t, s).x.Sign() == 0 {
			continue
		}
		p, q := of(t, s), of(t, flipped(s, 255))
		check(t, "the Neg", p.Neg(), flipped(s, 255))
		check(t, "the sum of both", p.Add(q), neutral())
		check(t, "the sum with Base", q.Add(point.Base()), known(t, s).negative().sum(known(t, base())).bytes())
	}
}

// P11.2: the eight points of small order, whose sums are their own.
func TestPointsOfSmallOrder(t *testing.T) {
	list := lowOrder(t)
	for i, s := range list {
		checkOf(t, s, api.OK)
		check(t, "the Neg", of(t, s).Neg(), list[(8-i)%8])
		for j, u := range list {
			check(t, "the sum", of(t, s).Add(of(t, u)), list[(i+j)%8])
			check(t, "the product", mul(t, of(t, s), encoded(small(int64(j)))), list[i*j%8])
		}
	}
}

// P11.2: the sums of points of each kind, all with all, against the law of the
// curve in big integers; a point and itself, its Neg and Zero() among them.
func TestSumsAgainstLaw(t *testing.T) {
	list := some(t)
	for _, s := range list {
		p, a := of(t, s), known(t, s)
		check(t, "with itself", p.Add(p), a.sum(a).bytes())
		check(t, "with its Neg", p.Add(p.Neg()), neutral())
		check(t, "its Neg with it", p.Neg().Add(p), neutral())
		check(t, "the Neg", p.Neg(), a.negative().bytes())
		check(t, "the Neg of the Neg", p.Neg().Neg(), s)
		for _, u := range list {
			check(t, "the sum", p.Add(of(t, u)), a.sum(known(t, u)).bytes())
			check(t, "the difference", p.Add(of(t, u).Neg()), a.sum(known(t, u).negative()).bytes())
		}
	}
}

// P11.2: the same of sums, whose four numbers are not those that Of makes: the
// sums, the Negs and the encodings are the same.
func TestSumsOfSums(t *testing.T) {
	list := found(7)
	p, a := of(t, list[0]), known(t, list[0])
	for range 3 {
		for i, s := range list {
			p, a = p.Add(of(t, s)), a.sum(known(t, s))
			check(t, "the sum", p, a.bytes())
			check(t, "its Neg", p.Neg(), a.negative().bytes())
			p, a = p.Neg().Add(p.Add(p)).Neg(), a.negative()
			check(t, "the Neg of it twice less it", p, a.bytes())
			check(t, "with one like it", p.Add(of(t, a.bytes())), a.sum(a).bytes())
			check(t, "with the Neg of one like it", p.Add(of(t, a.bytes()).Neg()), neutral())
			check(t, "with one of small order", p.Add(of(t, lowOrder(t)[i%8])), a.sum(known(t, lowOrder(t)[i%8])).bytes())
		}
	}
}

// P11.2, P11.4: it does not matter which of two points comes first, nor which
// of three are added first.
func TestOrderOfSums(t *testing.T) {
	list := some(t)
	for i, s := range list {
		p := of(t, s)
		for j, u := range list {
			q, r := of(t, u), of(t, list[(i+3*j+1)%len(list)])
			check(t, "the other way round", p.Add(q), q.Add(p).Bytes())
			check(t, "three the other way round", p.Add(q).Add(r), r.Add(p.Add(q)).Bytes())
			check(t, "three in another order", p.Add(q).Add(r), p.Add(q.Add(r)).Bytes())
		}
	}
}

// P11.2, P11.4: Zero() changes no encoding, on neither side and however often
// it is added, and the encoding of a point is the text that it comes from.
func TestZeroAddsNothing(t *testing.T) {
	for _, s := range slices.Concat(some(t), found(60)) {
		p := of(t, s)
		check(t, "as it is", p, s)
		check(t, "with Zero", p.Add(point.Zero()), s)
		check(t, "Zero with it", point.Zero().Add(p), s)
		check(t, "with the zero value", p.Add(point.Point{}), s)
		check(t, "with the sum of Zeros", p.Add(point.Zero().Add(point.Zero())), s)
		check(t, "with a Zero that is a sum", p.Add(point.Base().Add(point.Base().Neg())), s)
		for range 5 {
			p = p.Add(point.Zero())
		}
		check(t, "with Zero five times", p, s)
		check(t, "from its encoding", of(t, p.Bytes()), s)
	}
	check(t, "Zero with Zero", point.Zero().Add(point.Zero()), neutral())
	check(t, "the Neg of Zero", point.Zero().Neg(), neutral())
}

// P11.3: the numbers that single themselves out, written out, of Base() and of
// a point whose order is 8 L. The results were worked out in Python, by a law
// that divides.
func TestMultiplesAtTheEdges(t *testing.T) {
	three := "\x03" + zeros(31)
	last := unhex(t, "279c6ec76619e1265ba03c541e686d42da7d7748b361fcef0e1830eb9387dd14")
	eighth := lowOrder(t)[1]
	next := unhex(t, "07fb50b0a8337c3754d9235a8daafb19a0d35db44c681612200f42e2166049e7")
	for _, c := range []struct {
		n           *big.Int
		base, three string
	}{
		{small(0), neutral(), neutral()},
		{small(1), base(), three},
		{small(2), unhex(t, "c9a3f86aae465f0e56513864510f3997561fa2c9e85ea21dc2292309f3cd6022"), unhex(t, "8f196533d77f0fb7f08d943a1f981baf9545e61a7a0583e4f743f2d7695cc9d9")},
		{small(8), unhex(t, "b4b937fca95b2f1e93e41e62fc3c78818ff38a66096fad6e7973e5c90006d321"), unhex(t, "804b91162dc636168b05aa12f2b5ff897a28fcceefba1a0cb45a150705696515")},
		{minus(order(), small(1)), flipped(base(), 255), last},
		{order(), neutral(), eighth},
		{plus(order(), small(1)), base(), next},
		{minus(times8(order()), small(1)), flipped(base(), 255), flipped(three, 255)},
		{times8(order()), neutral(), neutral()},
		{minus(power(256), small(1)), unhex(t, "db27fe4b7a4beb8c1b8c38a21e943a852304c9bb3035a5f36626b51162a68f9c"), unhex(t, "d25e3473136da9724749917a7edb4d4e70a084c9743d8136b4435e0570d9b457")},
	} {
		check(t, c.n.String()+" times Base", mul(t, point.Base(), encoded(c.n)), c.base)
		check(t, c.n.String()+" times another", mul(t, of(t, three), encoded(c.n)), c.three)
		check(t, c.n.String()+" times Zero", mul(t, point.Zero(), encoded(c.n)), neutral())
	}
	check(t, "32 bytes 255", mul(t, point.Base(), ones(32)), mul(t, point.Base(), encoded(minus(power(256), small(1)))).Bytes())
}

func times8(a *big.Int) *big.Int { return new(big.Int).Lsh(a, 3) }

// P11.3: each single bit of a number, and all but it.
func TestEveryBitOfNumber(t *testing.T) {
	s := found(1)[0]
	p, a := of(t, s), known(t, s)
	all := a.multiple(minus(power(256), small(1)))
	for n := range 256 {
		check(t, "one bit", mul(t, p, flipped(zeros(32), n)), a.bytes())
		check(t, "all but one", mul(t, p, flipped(ones(32), n)), all.sum(a.negative()).bytes())
		a = a.sum(a)
	}
}

// P11.3: points of each kind, taken numbers of times of each kind, against
// additions in big integers.
func TestMultiplesAgainstLaw(t *testing.T) {
	for i, s := range some(t) {
		for j, n := range []string{sample(2*i, 32), sample(2*i+1, 8) + zeros(24), zeros(30) + sample(i, 2), encoded(minus(order(), small(int64(i)))), encoded(plus(order(), small(int64(i))))} {
			check(t, "the number "+string('0'+rune(j)), mul(t, of(t, s), n), known(t, s).multiple(integer(n)).bytes())
		}
	}
}

// P11.3: small numbers, against sums of the package's own.
func TestSmallMultiples(t *testing.T) {
	for _, s := range found(2) {
		p, sum := of(t, s), point.Zero()
		for n := range int64(130) {
			check(t, "the multiple", mul(t, p, encoded(small(n))), sum.Bytes())
			check(t, "of the Neg", mul(t, p.Neg(), encoded(small(n))), sum.Neg().Bytes())
			sum = sum.Add(p)
		}
	}
}

// P11.3: Mul of points that are sums, and multiples of multiples, sums of them
// and multiples of sums.
func TestMultiplesOfMultiples(t *testing.T) {
	for i, s := range found(5) {
		p, q := of(t, s), of(t, found(6)[i+1])
		n, m := sample(10+i, 16)+zeros(16), sample(20+i, 15)+zeros(17)
		product := encoded(new(big.Int).Mul(integer(n), integer(m)))
		check(t, "of a multiple", mul(t, mul(t, p, n), m), mul(t, p, product).Bytes())
		check(t, "of both numbers", mul(t, p, n).Add(mul(t, p, m)), mul(t, p, encoded(plus(integer(n), integer(m)))).Bytes())
		check(t, "of a sum", mul(t, p.Add(q), n), mul(t, p, n).Add(mul(t, q, n)).Bytes())
		check(t, "of L and more", mul(t, mul(t, p, encoded(small(8))), encoded(plus(order(), integer(n)))), mul(t, p, encoded(times8(integer(n)))).Bytes())
	}
}

// clamped is the number that Ed25519 and X25519 make of 32 bytes.
func clamped(s string) string {
	b := []byte(s)
	b[0] &= 248
	b[31] = b[31]&127 | 64
	return string(b)
}

// publicOf is the public key of an Ed25519 seed by Mul.
func publicOf(t *testing.T, seed string) string {
	t.Helper()
	digest := sha512.Sum512([]byte(seed))
	return mul(t, point.Base(), clamped(string(digest[:32]))).Bytes()
}

// P11.2, P11.3: the keys that RFC 8032 publishes in 7.1.
func TestPublishedKeys(t *testing.T) {
	for _, c := range []struct{ seed, public string }{
		{"9d61b19deffd5a60ba844af492ec2cc44449c5697b326919703bac031cae7f60", "d75a980182b10ab7d54bfed3c964073a0ee172f3daa62325af021a68f707511a"},
		{"4ccd089b28ff96da9db6c346ec114e0f5b8a319f35aba624da8cf6ed4fb8a6fb", "3d4017c3e843895a92b70aa74d1b7ebc9c982ccf2ec4968cc0cd55f12af4660c"},
		{"c5aa8df43f9f837bedb7442f31dcb7b166d38535076f094b85ce3a2e0b4458f7", "fc51cd8e6218a1a38da47ed00230f0580816ed13ba3303ac5deb911548908025"},
		{"f5e5767cf153319517630f226876b86c8160cc583bc013744c6bf255f5cc0ee5", "278117fc144c72340f67d0f2316e8386ceffbf2b2428c9c51fef7c597f1d426e"},
		{"833fe62409237b9d62ec77587520911e9a759cec1d19755b7da901b96dca3d42", "ec172b93ad5e563bf4932c70e1245034c35467ef2efd4d64ebf819683467e2bf"},
	} {
		if got := publicOf(t, unhex(t, c.seed)); got != unhex(t, c.public) {
			t.Errorf("%s: %x, not %s", c.seed, got, c.public)
		}
		checkOf(t, unhex(t, c.public), api.OK)
	}
}

// P11.2, P11.3: keys of the Go library.
func TestKeysOfLibrary(t *testing.T) {
	for i := range 100 {
		seed := sample(i, 32)
		key := ed25519.NewKeyFromSeed([]byte(seed)).Public().(ed25519.PublicKey)
		if got := publicOf(t, seed); got != string(key) {
			t.Errorf("%x: %x, not %x", seed, got, key)
		}
		checkOf(t, string(key), api.OK)
	}
}

// P11.1, P11.2, P11.3: the signatures that the Go library makes are on the
// line that its keys and their digests make: s times Base() is R and the
// digest times the key.
func TestSignaturesOfLibrary(t *testing.T) {
	for i := range 50 {
		key := ed25519.NewKeyFromSeed([]byte(sample(i, 32)))
		public, text := string(key[32:]), sample(100+i, i)
		signature := string(ed25519.Sign(key, []byte(text)))
		digest := sha512.Sum512([]byte(signature[:32] + public + text))
		k := encoded(new(big.Int).Mod(integer(string(digest[:])), order()))
		sum := of(t, signature[:32]).Add(mul(t, of(t, public), k))
		check(t, "the signature", mul(t, point.Base(), signature[32:]), sum.Bytes())
		check(t, "what is left", mul(t, point.Base(), signature[32:]).Add(mul(t, of(t, public).Neg(), k)), signature[:32])
	}
}

// P11.3: the curve of X25519 is the same one in other words, where a point is
// (1 + y)/(1 - y).
func TestKeysOfOtherCurve(t *testing.T) {
	for i := range 50 {
		n := sample(i, 32)
		key, err := ecdh.X25519().NewPrivateKey([]byte(n))
		if err != nil {
			t.Fatal(err)
		}
		a := known(t, mul(t, point.Base(), clamped(n)).Bytes())
		u := times(plus(small(1), a.y), inverse(minus(small(1), a.y)))
		if want := string(key.PublicKey().Bytes()); encoded(u) != want {
			t.Errorf("%x: %x, not %x", n, encoded(u), want)
		}
	}
}

// R1: a point whose number or text is refused stays what it is.
func TestPointsStay(t *testing.T) {
	for _, s := range some(t) {
		p := of(t, s)
		first := p
		p.Mul("short")
		p.Mul(ones(32))
		p.Add(p)
		p.Neg()
		if p != first {
			t.Errorf("%x has changed", s)
		}
		check(t, "after calls", p, s)
	}
}

// R2: the arguments and what lies behind them stay as they are, and an answer
// is memory of its own.
func TestNothingIsShared(t *testing.T) {
	first := found(1)[0] + sample(1, 100)
	memory := []byte(first)
	p := of(t, unsafe.String(&memory[0], 32))
	q := mul(t, p, unsafe.String(&memory[40], 32))
	want := known(t, first[:32]).multiple(integer(first[40:72])).bytes()
	if string(memory) != first {
		t.Error("an argument has changed")
	}
	a, b := p.Bytes(), p.Bytes()
	if unsafe.StringData(a) == unsafe.StringData(b) {
		t.Error("two answers share memory")
	}
	clear(memory)
	check(t, "the point", p, first[:32])
	check(t, "the multiple", q, want)
	if a != first[:32] {
		t.Error("an answer has changed with an argument")
	}
}

// R3: a call leaves nothing behind that another one would see, be it ahead of
// it or at the same time.
func TestCallsAreApart(t *testing.T) {
	list := found(8)
	answer := func(i int) string {
		p, _ := point.Of(list[i])
		q, _ := p.Mul(sample(i, 32))
		return p.Add(q).Bytes() + q.Neg().Bytes() + point.Base().Bytes()
	}
	want := make([]string, len(list))
	for i := range want {
		want[i] = answer(i)
		point.Of("short")
		point.Of(ones(32))
		point.Base().Mul("short")
	}
	var all sync.WaitGroup
	for i := range want {
		all.Go(func() {
			for range 20 {
				if got := answer(i); got != want[i] {
					t.Errorf("%x, not %x", got, want[i])
				}
			}
		})
	}
	all.Wait()
}

func BenchmarkOf(b *testing.B) {
	s := found(1)[0]
	for b.Loop() {
		of(b, s)
	}
}

func BenchmarkAdd(b *testing.B) {
	p, q := of(b, found(2)[0]), of(b, found(2)[1])
	for b.Loop() {
		p = p.Add(q)
	}
}

func BenchmarkMul(b *testing.B) {
	p, n := of(b, found(1)[0]), sample(1, 32)
	for b.Loop() {
		mul(b, p, n)
	}
}
