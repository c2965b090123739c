package sign_test

import (
	"crypto/ed25519"
	"crypto/sha512"
	"math/big"
	"slices"
	"testing"

	"cresset/api"
	"cresset/point"
	"cresset/sign"
)

func small(n int64) *big.Int { return big.NewInt(n) }

func power(n uint) *big.Int { return new(big.Int).Lsh(small(1), n) }

func plus(a, b *big.Int) *big.Int  { return new(big.Int).Add(a, b) }
func minus(a, b *big.Int) *big.Int { return new(big.Int).Sub(a, b) }
func times(a, b *big.Int) *big.Int { return new(big.Int).Mul(a, b) }

func prime() *big.Int { return minus(power(255), small(19)) }

// order is L, as the document writes it in decimal.
func order() *big.Int {
	rest, _ := new(big.Int).SetString("27742317777372353535851937790883648493", 10)
	return plus(power(252), rest)
}

// reversed is s with the last byte first.
func reversed(s string) string {
	b := []byte(s)
	slices.Reverse(b)
	return string(b)
}

// integer is what s encodes, and encoded is 32 bytes for a v below 2^256.
func integer(s string) *big.Int { return new(big.Int).SetBytes([]byte(reversed(s))) }

func encoded(v *big.Int) string { return reversed(string(v.FillBytes(make([]byte, 32)))) }

// secretOf is the scalar of a seed.
func secretOf(seed string) *big.Int {
	digest := sha512.Sum512([]byte(seed))
	v := integer(string(digest[:32]))
	for _, n := range []int{0, 1, 2, 255} {
		v.SetBit(v, n, 0)
	}
	return v.SetBit(v, 254, 1)
}

// challenge is the k of a first half, a public key and a text.
func challenge(first, public, text string) *big.Int {
	digest := sha512.Sum512([]byte(first + public + text))
	return new(big.Int).Mod(integer(string(digest[:])), order())
}

// answerTo is the second half that belongs to r and to the scalar a.
func answerTo(first, public, text string, r, a *big.Int) string {
	v := plus(times(challenge(first, public, text), a), r)
	return encoded(v.Mod(v, order()))
}

// taken is the point of a text v times, and multiple is Base() v times.
func taken(t testing.TB, s string, v *big.Int) point.Point {
	t.Helper()
	p, e := point.Of(s)
	if e != api.OK {
		t.Fatalf("Of(%x): %v", s, e)
	}
	q, e := p.Mul(encoded(v))
	if e != api.OK {
		t.Fatalf("Mul(%v): %v", v, e)
	}
	return q
}

func multiple(t testing.TB, v *big.Int) point.Point {
	t.Helper()
	return taken(t, point.Base().Bytes(), v)
}

// lowOrder is the eight points whose multiples are eight at the most, in the
// order of the multiples of the second one.
func lowOrder(t testing.TB) []point.Point {
	t.Helper()
	var out []point.Point
	for n := range int64(8) {
		out = append(out, taken(t, unhex(t, "c7176a703d4dd84fba3c0b760d10670f2a2053fa2c39ccc64ec7fd7792ac037a"), small(n)))
	}
	return out
}

func neutral() string { return "\x01" + zeros(31) }

// alias is bytes that are no encoding, and those of the point that they could be
// taken for: they have p more, or the sign of an x that is 0.
type alias struct{ bytes, own string }

func aliases() []alias {
	return []alias{
		{"\x01" + zeros(30) + "\x80", neutral()},
		{"\xee" + ones(30) + "\x7f", neutral()},
		{"\xee" + ones(31), neutral()},
		{"\xec" + ones(31), "\xec" + ones(30) + "\x7f"},
		{"\xed" + ones(30) + "\x7f", zeros(32)},
		{"\xed" + ones(31), zeros(31) + "\x80"},
	}
}

// badKeys is texts that encode no point.
func badKeys() []string {
	out := []string{"", "\x01", sample(1, 31), zeros(31), zeros(33), ones(32), "\x02" + zeros(31), "\x02" + zeros(30) + "\x80", neutral() + "\x00", zeros(64), sample(2, 64)}
	for n := range int64(19) {
		s := encoded(plus(prime(), small(n)))
		out = append(out, s, flipped(s, 255))
	}
	for _, a := range aliases() {
		out = append(out, a.bytes)
	}
	return out
}

// checkBoth holds Verify against what it should answer, and the Go library too,
// which agrees where the public key is the encoding of a point.
func checkBoth(t *testing.T, what, public, text, signature string, want api.Errno) {
	t.Helper()
	checkVerify(t, what, public, text, signature, want)
	if ed25519.Verify([]byte(public), []byte(text), []byte(signature)) != (want == api.OK) {
		t.Errorf("%s: the library does not answer %v to Verify(%x, %d bytes, %x)", what, want, public, len(text), signature)
	}
}

// P12.3: signatures of any length but 64 bytes are refused, also those whose
// first or last 64 bytes are right, or whose halves are right but too long.
func TestWrongLengthsOfSignatures(t *testing.T) {
	public := publicOf(t, sample(1, 32))
	right := signatureOf(t, sample(1, 32), "text")
	lengths := []int{127, 128, 129, 255, 256, 65536 + 64}
	for n := range 100 {
		lengths = append(lengths, n)
	}
	for _, n := range lengths {
		if n == 64 {
			continue
		}
		long := right + zeros(n)
		for _, s := range []string{zeros(n), ones(n), sample(n, n), long[:n], reversed(reversed(right) + zeros(n))[64:], (neutral() + zeros(n))[:n]} {
			checkVerify(t, "a length", public, "text", s, api.ErrSig)
			checkVerify(t, "a length", neutral(), "text", s, api.ErrSig)
		}
	}
	checkVerify(t, "one byte less", public, "text", right[:63], api.ErrSig)
	checkVerify(t, "without the first byte", public, "text", right[1:], api.ErrSig)
	checkVerify(t, "a byte more", public, "text", right+"\x00", api.ErrSig)
	checkVerify(t, "a byte ahead", public, "text", "\x00"+right, api.ErrSig)
	checkVerify(t, "a byte between", public, "text", right[:32]+"\x00"+right[32:], api.ErrSig)
	checkVerify(t, "the first half", public, "text", right[:32], api.ErrSig)
	checkVerify(t, "the second half", public, "text", right[32:], api.ErrSig)
	checkVerify(t, "twice", public, "text", right+right, api.ErrSig)
	checkBoth(t, "right", public, "text", right, api.OK)
}

// P12.3: a signature with any bit changed, in either half, is refused, and so
// is one with its halves exchanged or with a half of another one.
func TestEveryBitOfSignature(t *testing.T) {
	seed := sample(1, 32)
	public, right := publicOf(t, seed), signatureOf(t, seed, "text")
	for n := range 512 {
		checkBoth(t, "a bit", public, "text", flipped(right, n), api.ErrSig)
	}
	other := signatureOf(t, seed, "other text")
	checkBoth(t, "exchanged", public, "text", right[32:]+right[:32], api.ErrSig)
	checkBoth(t, "another first half", public, "text", other[:32]+right[32:], api.ErrSig)
	checkBoth(t, "another second half", public, "text", right[:32]+other[32:], api.ErrSig)
	checkBoth(t, "no bits", public, "text", zeros(64), api.ErrSig)
	checkBoth(t, "all bits", public, "text", ones(64), api.ErrSig)
	checkBoth(t, "of no secret", public, "text", neutral()+zeros(32), api.ErrSig)
}

// P12.3: a signature is of one text only, and every bit of it counts.
func TestAnotherText(t *testing.T) {
	seed, text := sample(1, 32), sample(2, 20)
	public, right := publicOf(t, seed), signatureOf(t, seed, text)
	checkBoth(t, "its own", public, text, right, api.OK)
	for n := range 8 * len(text) {
		checkBoth(t, "a bit", public, flipped(text, n), right, api.ErrSig)
	}
	for n := range len(text) {
		checkBoth(t, "less", public, text[:n], right, api.ErrSig)
	}
	for _, s := range []string{text + "\x00", "\x00" + text, text + text, reversed(text), public + text, sample(3, 20)} {
		checkBoth(t, "another text", public, s, right, api.ErrSig)
	}
	none := signatureOf(t, seed, "")
	checkBoth(t, "of none", public, "", none, api.OK)
	checkBoth(t, "a byte more than none", public, "\x00", none, api.ErrSig)
	checkBoth(t, "none", public, "", right, api.ErrSig)
}

// P12.3: a signature is one public key's only. With any bit changed, the key is
// another point or none, and the error tells which.
func TestAnotherKey(t *testing.T) {
	public, right := publicOf(t, sample(1, 32)), signatureOf(t, sample(1, 32), "text")
	points := 0
	for n := range 256 {
		s := flipped(public, n)
		if _, e := point.Of(s); e != api.OK {
			checkVerify(t, "no point", s, "text", right, api.ErrKey)
			continue
		}
		points++
		checkBoth(t, "another point", s, "text", right, api.ErrSig)
	}
	if points < 64 || points > 192 {
		t.Errorf("%d points", points)
	}
	for i := range 10 {
		checkBoth(t, "another key", publicOf(t, sample(10+i, 32)), "text", right, api.ErrSig)
	}
	for _, p := range lowOrder(t) {
		checkBoth(t, "of small order", p.Bytes(), "text", right, api.ErrSig)
	}
	checkBoth(t, "the first half", right[:32], "text", right, api.ErrSig)
	checkBoth(t, "Base", point.Base().Bytes(), "text", right, api.ErrSig)
}

// P12.3: public keys of any length but 32 bytes are refused, also those whose
// first or last 32 bytes are the right one.
func TestWrongLengthsOfPublicKeys(t *testing.T) {
	public, right := publicOf(t, sample(1, 32)), signatureOf(t, sample(1, 32), "text")
	for n := range 100 {
		if n == 32 {
			continue
		}
		for _, s := range []string{zeros(n), ones(n), sample(n, n), (public + zeros(n))[:n], (zeros(n) + public)[32:], (neutral() + zeros(n))[:n]} {
			checkVerify(t, "a length", s, "text", right, api.ErrKey)
			checkVerify(t, "a length", s, "text", "", api.ErrKey)
		}
	}
	checkVerify(t, "one byte less", public[:31], "text", right, api.ErrKey)
	checkVerify(t, "a byte more", public+"\x00", "text", right, api.ErrKey)
	checkVerify(t, "a byte ahead", "\x00"+public, "text", right, api.ErrKey)
	checkVerify(t, "a byte to the text", public+"t", "ext", right, api.ErrKey)
	checkVerify(t, "a byte of the text", public[:31], public[31:]+"text", right, api.ErrKey)
}

// P12.3: where the public key and the signature are both wrong, the key's error
// is answered, whatever is wrong with the signature.
func TestKeyGoesFirst(t *testing.T) {
	right := signatureOf(t, sample(1, 32), "text")
	signatures := []string{"", "\x00", right[:63], right, right + "\x00", zeros(64), ones(64), neutral() + zeros(32), zeros(32) + encoded(order()), "\x02" + zeros(63), right[:32] + ones(32)}
	for _, public := range badKeys() {
		for _, s := range signatures {
			checkVerify(t, "both wrong", public, "text", s, api.ErrKey)
			checkVerify(t, "both wrong", public, "", s, api.ErrKey)
		}
	}
	public := publicOf(t, sample(1, 32))
	for _, s := range signatures {
		want := api.ErrSig
		if s == right {
			want = api.OK
		}
		checkVerify(t, "the signature only", public, "text", s, want)
	}
}

// P12.3: bytes that are no encoding are no public key, though a signature is
// right for the point that they could be taken for.
func TestKeysInOtherBytes(t *testing.T) {
	for _, a := range aliases() {
		found := 0
		for n := range int64(30) {
			first := multiple(t, small(n)).Bytes()
			if taken(t, a.own, challenge(first, a.bytes, "text")).Bytes() == neutral() {
				found++
			}
			checkVerify(t, "other bytes", a.bytes, "text", first+encoded(small(n)), api.ErrKey)
		}
		if found == 0 {
			t.Errorf("%x: no signature is right for the point", a.bytes)
		}
	}
}

// P12.3: under the public key that adds nothing, a signature is right if its
// first half is Base() times the second one: so the limit of the second half is
// all that the integers from L on are refused for.
func TestLimitOfSecondHalf(t *testing.T) {
	l := order()
	for _, v := range []*big.Int{small(0), small(1), small(2), power(251), minus(power(252), small(1)), power(252), minus(l, small(2)), minus(l, small(1))} {
		checkBoth(t, "below L", neutral(), "text", multiple(t, v).Bytes()+encoded(v), api.OK)
		checkBoth(t, "of one more", neutral(), "text", multiple(t, plus(v, small(1))).Bytes()+encoded(v), api.ErrSig)
	}
	from := []*big.Int{l, plus(l, small(1)), plus(l, small(2)), power(253), power(254), power(255), prime(), minus(power(253), small(1)), minus(power(256), small(1))}
	for n := range int64(14) {
		v := times(l, small(n+2))
		from = append(from, minus(v, small(1)), v, plus(v, small(1)))
	}
	for _, v := range from {
		checkBoth(t, "from L on", neutral(), "text", multiple(t, v).Bytes()+encoded(v), api.ErrSig)
	}
	for n := range uint(8) {
		v := plus(l, power(32*n))
		checkBoth(t, "a bit above L", neutral(), "text", multiple(t, v).Bytes()+encoded(v), api.ErrSig)
		v = minus(l, power(32*n))
		checkBoth(t, "a bit below L", neutral(), "text", multiple(t, v).Bytes()+encoded(v), api.OK)
	}
}

// P12.3: the same integers under a key to which they do not belong.
func TestSecondHalvesThatDoNotFit(t *testing.T) {
	public, right := publicOf(t, sample(1, 32)), signatureOf(t, sample(1, 32), "text")
	for _, v := range []*big.Int{small(0), small(1), minus(order(), small(1)), order(), plus(order(), small(1)), minus(power(256), small(1))} {
		checkBoth(t, "a second half", public, "text", right[:32]+encoded(v), api.ErrSig)
		checkBoth(t, "its multiple", public, "text", multiple(t, v).Bytes()+encoded(v), api.ErrSig)
	}
}

// P12.4: with the order added to its second half, once or as often as there is
// room, no signature is valid any more.
func TestOrderAdded(t *testing.T) {
	for i := range 20 {
		seed, text := sample(i, 32), sample(100+i, 10*i)
		public, right := publicOf(t, seed), signatureOf(t, seed, text)
		checkBoth(t, "as it is", public, text, right, api.OK)
		added := 0
		for v := plus(integer(right[32:]), order()); v.BitLen() <= 256; v = plus(v, order()) {
			checkBoth(t, "L more", public, text, right[:32]+encoded(v), api.ErrSig)
			added++
		}
		if added < 14 {
			t.Errorf("added %d times only", added)
		}
	}
}

// P12.3: first halves that are no point's encoding are refused like others.
func TestFirstHalvesThatAreNoPoint(t *testing.T) {
	seed := sample(1, 32)
	public, right := publicOf(t, seed), signatureOf(t, seed, "text")
	for _, first := range badKeys() {
		if len(first) != 32 {
			continue
		}
		for _, second := range []string{right[32:], zeros(32), answerTo(first, public, "text", small(0), secretOf(seed)), answerTo(first, public, "text", small(1), secretOf(seed))} {
			checkBoth(t, "no point", public, "text", first+second, api.ErrSig)
		}
	}
}

// P12.3: a first half in other bytes is refused, though it could be taken for
// the very point that is asked for. That of neutral() is also tried under a key
// that has a secret.
func TestFirstHalvesInOtherBytes(t *testing.T) {
	for _, a := range aliases() {
		found := 0
		for _, p := range lowOrder(t)[1:] {
			for _, text := range []string{"a", "b", "c", "d", "e", "f"} {
				public := p.Bytes()
				if taken(t, public, challenge(a.bytes, public, text)).Neg().Bytes() == a.own {
					found++
				}
				checkBoth(t, "other bytes", public, text, a.bytes+zeros(32), api.ErrSig)
			}
		}
		if found == 0 {
			t.Errorf("%x: never the point that is asked for", a.bytes)
		}
	}
	seed := sample(1, 32)
	for _, a := range aliases()[:3] {
		public := publicOf(t, seed)
		checkBoth(t, "other bytes", public, "text", a.bytes+answerTo(a.bytes, public, "text", small(0), secretOf(seed)), api.ErrSig)
	}
	first, public := neutral(), publicOf(t, seed)
	checkBoth(t, "its own bytes", public, "text", first+answerTo(first, public, "text", small(0), secretOf(seed)), api.OK)
}

// P12.3: first halves and public keys to which a point of small order has been
// added, or which are one. The sum has to be right as it is, and not only eight
// times.
func TestPointsOfSmallOrder(t *testing.T) {
	points := lowOrder(t)
	for _, c := range []struct{ r, a *big.Int }{
		{small(0), small(0)}, {small(0), integer(sample(1, 31))}, {integer(sample(2, 31)), small(0)}, {integer(sample(3, 31)), integer(sample(4, 31))},
	} {
		right := 0
		for i := range 8 {
			for j := range 8 {
				first := multiple(t, c.r).Add(points[i]).Bytes()
				public := multiple(t, c.a).Add(points[j]).Bytes()
				k := challenge(first, public, "text")
				want := api.ErrSig
				if left := plus(times(k, small(int64(j))), small(int64(i))); left.Mod(left, small(8)).Sign() == 0 {
					want = api.OK
					right++
				}
				checkBoth(t, "small order", public, "text", first+answerTo(first, public, "text", c.r, c.a), want)
			}
		}
		if right < 2 || right > 32 {
			t.Errorf("%d of 64 are right", right)
		}
	}
}

// P12.3: signatures that a seed would not make, of any r and any scalar, are
// right all the same.
func TestSignaturesOfOwnNumbers(t *testing.T) {
	l := order()
	numbers := []*big.Int{small(1), small(2), minus(l, small(1)), integer(sample(1, 31)), integer(sample(2, 31))}
	for _, r := range append(numbers, small(0)) {
		for _, a := range numbers {
			first, public := multiple(t, r).Bytes(), multiple(t, a).Bytes()
			second := answerTo(first, public, "text", r, a)
			checkBoth(t, "own numbers", public, "text", first+second, api.OK)
			checkBoth(t, "r more by one", public, "text", first+answerTo(first, public, "text", plus(r, small(1)), a), api.ErrSig)
			checkBoth(t, "the Neg of the key", flipped(public, 255), "text", first+second, api.ErrSig)
		}
	}
}

// P12.3: a signature of this seed and of another one for the same text, each
// under both keys.
func TestTwoSeeds(t *testing.T) {
	for i := range 10 {
		one, other := sample(i, 32), sample(50+i, 32)
		a, b := signatureOf(t, one, "text"), signatureOf(t, other, "text")
		checkBoth(t, "its own", publicOf(t, one), "text", a, api.OK)
		checkBoth(t, "its own", publicOf(t, other), "text", b, api.OK)
		checkBoth(t, "of the other", publicOf(t, one), "text", b, api.ErrSig)
		checkBoth(t, "of the other", publicOf(t, other), "text", a, api.ErrSig)
	}
}

// P12.2, P12.3: the same call has the same answer.
func TestSameAgain(t *testing.T) {
	seed := sample(1, 32)
	first := signatureOf(t, seed, "text")
	for i := range 10 {
		if again := signatureOf(t, seed, "text"); again != first {
			t.Errorf("%x, not %x", again, first)
		}
		sign.Sign(sample(i, 32), "text")
		checkVerify(t, "again", publicOf(t, seed), "text", first, api.OK)
	}
}
