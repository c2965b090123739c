package ladder_test

import (
	"crypto/ecdh"
	"encoding/hex"
	"math/big"
	"math/rand"
	"slices"
	"strings"
	"sync"
	"testing"
	"unsafe"

	"cresset/api"
	"cresset/field"
	"cresset/ladder"
)

// sample is n bytes of all values, without a short period; no two seeds have
// the same.
func sample(seed, n int) string {
	b := make([]byte, n)
	rand.New(rand.NewSource(int64(seed))).Read(b)
	return string(b)
}

func unhex(t testing.TB, s string) string {
	t.Helper()
	b, err := hex.DecodeString(s)
	if err != nil {
		t.Fatal(err)
	}
	return string(b)
}

// zeros and ones are n bytes of no bits and of all bits.
func zeros(n int) string { return strings.Repeat("\x00", n) }
func ones(n int) string  { return strings.Repeat("\xff", n) }

func small(n int64) *big.Int { return big.NewInt(n) }

func power(n uint) *big.Int { return new(big.Int).Lsh(small(1), n) }

func plus(a, b *big.Int) *big.Int  { return new(big.Int).Add(a, b) }
func minus(a, b *big.Int) *big.Int { return new(big.Int).Sub(a, b) }

func prime() *big.Int { return minus(power(255), small(19)) }

// reversed is s with the last byte first.
func reversed(s string) string {
	b := []byte(s)
	slices.Reverse(b)
	return string(b)
}

// integer is what s encodes, and encoded is 32 bytes for a v below 2^256.
func integer(s string) *big.Int { return new(big.Int).SetBytes([]byte(reversed(s))) }

func encoded(v *big.Int) string {
	return reversed(string(v.FillBytes(make([]byte, 32))))
}

// flipped is s with the n-th bit another one.
func flipped(s string, n int) string {
	b := []byte(s)
	b[n/8] ^= 1 << (n % 8)
	return string(b)
}

// reckoned is what the document's own steps come to, in big integers.
func reckoned(secret, public string) (string, api.Errno) {
	p := prime()
	times := func(a, b *big.Int) *big.Int { v := new(big.Int).Mul(a, b); return v.Mod(v, p) }
	k := integer(secret)
	for _, n := range []int{0, 1, 2, 255} {
		k.SetBit(k, n, 0)
	}
	k.SetBit(k, 254, 1)
	u := integer(public)
	u.SetBit(u, 255, 0)
	a, b, c, d := small(1), small(0), u, small(1)
	for n := 254; n >= 0; n-- {
		if k.Bit(n) == 1 {
			a, c, b, d = c, a, d, b
		}
		m, n1 := plus(a, b), minus(a, b)
		o, q := times(m, m), times(n1, n1)
		r := minus(o, q)
		s, t := times(minus(c, d), m), times(plus(c, d), n1)
		c, d = times(plus(t, s), plus(t, s)), times(u, times(minus(t, s), minus(t, s)))
		a, b = times(o, q), times(r, plus(o, times(small(121665), r)))
		if k.Bit(n) == 1 {
			a, c, b, d = c, a, d, b
		}
	}
	out := encoded(times(a, new(big.Int).Exp(b, minus(p, small(2)), p)))
	if out == zeros(32) {
		return "", api.ErrKey
	}
	return out, api.OK
}

// library is what the Go library answers, which refuses a result of zero bytes
// too, and nothing else of 32 bytes.
func library(t *testing.T, secret, public string) (string, api.Errno) {
	t.Helper()
	k, err := ecdh.X25519().NewPrivateKey([]byte(secret))
	if err != nil {
		t.Fatal(err)
	}
	u, err := ecdh.X25519().NewPublicKey([]byte(public))
	if err != nil {
		t.Fatal(err)
	}
	out, err := k.ECDH(u)
	if err != nil {
		return "", api.ErrKey
	}
	return string(out), api.OK
}

// checkShare holds Share against a result.
func checkShare(t *testing.T, secret, public, want string, wantErr api.Errno) {
	t.Helper()
	if got, e := ladder.Share(secret, public); got != want || e != wantErr {
		t.Errorf("Share(%x, %x): %x, %v, not %x, %v", secret, public, got, e, want, wantErr)
	}
}

// checkLibrary holds Share against the Go library.
func checkLibrary(t *testing.T, secret, public string) {
	t.Helper()
	want, e := library(t, secret, public)
	checkShare(t, secret, public, want, e)
}

// share and publicOf are the calls of which a test knows that they are right.
func share(t testing.TB, secret, public string) string {
	t.Helper()
	out, e := ladder.Share(secret, public)
	if e != api.OK || len(out) != 32 {
		t.Fatalf("Share(%x, %x): %x, %v", secret, public, out, e)
	}
	return out
}

func publicOf(t testing.TB, secret string) string {
	t.Helper()
	out, e := ladder.Public(secret)
	if e != api.OK || len(out) != 32 {
		t.Fatalf("Public(%x): %x, %v", secret, out, e)
	}
	return out
}

// secrets is some of each kind: without a pattern, of the same bytes, with one
// bit or all but one, and with the bits alone that are cleared or set.
func secrets() []string {
	out := []string{zeros(32), ones(32), strings.Repeat("\x11", 32), strings.Repeat("\x22", 32)}
	for i := range 8 {
		out = append(out, sample(i, 32))
	}
	for _, n := range []int{0, 2, 3, 7, 8, 63, 64, 127, 128, 192, 253, 254, 255} {
		out = append(out, flipped(zeros(32), n), flipped(ones(32), n))
	}
	return append(out, "\x07"+zeros(30)+"\xc0", "\xf8"+ones(30)+"\x3f")
}

// publics is some of each kind: at the borders of p and of 255 bits, beside
// powers of 2 and without a pattern. None of them has the highest bit.
func publics() []string {
	var out []string
	for n := range int64(25) {
		out = append(out, encoded(small(n)), encoded(minus(prime(), small(n))))
		if n < 19 {
			out = append(out, encoded(plus(prime(), small(n))))
		}
	}
	for _, n := range []uint{8, 51, 64, 128, 192, 204, 253, 254} {
		out = append(out, encoded(power(n)), encoded(minus(power(n), small(1))))
	}
	for i := range 12 {
		v := integer(sample(100+i, 32))
		out = append(out, encoded(v.SetBit(v, 255, 0)))
	}
	return append(out, allZero()...)
}

// order8 is the two publics below p with points of order 8.
func order8() [2]string {
	lower, _ := new(big.Int).SetString("325606250916557431795983626356110631294008115727848805560023387167927233504", 10)
	upper, _ := new(big.Int).SetString("39382357235489614581723060781553021112529911719440698176882885853963445705823", 10)
	return [2]string{encoded(lower), encoded(upper)}
}

// allZero is all publics of 255 bits whose result is all zero.
func allZero() []string {
	eight := order8()
	out := eight[:]
	for n := range int64(2) {
		out = append(out, encoded(small(n)), encoded(plus(prime(), small(n))))
	}
	return append(out, encoded(minus(prime(), small(1))))
}

// P9.1, P9.2: the chapter's examples, whatever the secret is in the second one.
func TestExamples(t *testing.T) {
	x := publicOf(t, strings.Repeat("\x11", 32))
	if !strings.HasPrefix(x, "\x7b\x4e\x90\x9b") || x != unhex(t, "7b4e909bbe7ffe44c465a220037d608ee35897d31ef972f07f74892cb0f73f13") {
		t.Errorf("%x", x)
	}
	for _, s := range secrets() {
		checkShare(t, s, zeros(32), "", api.ErrKey)
	}
}

// P9.1: what RFC 7748 publishes in 5.2. The second public has the highest bit.
func TestPublishedResults(t *testing.T) {
	for _, c := range []struct{ secret, public, want string }{
		{"a546e36bf0527c9d3b16154b82465edd62144c0ac1fc5a18506a2244ba449ac4", "e6db6867583030db3594c1a424b15f7c726624ec26b3353b10a903a6d0ab1c4c", "c3da55379de9c6908e94ea4df28d084f32eccf03491c71f754b4075577a28552"},
		{"4b66e9d4d1b4673c5ad22691957d6af5c11b6421e0ea01d42ca4169e7918ba0d", "e5210f12786811d3f4b7959d0538ae2c31dbe7106fc03c3efc4cd549c715a493", "95cbde9476e8907d7aade45cb4b873f88b595a68799fa152e6f8f7647aac7957"},
	} {
		checkShare(t, unhex(t, c.secret), unhex(t, c.public), unhex(t, c.want), api.OK)
	}
}

// P9.1: the results of results that RFC 7748 publishes in 5.2, after one time
// and after a thousand.
func TestPublishedChain(t *testing.T) {
	k, u := "\x09"+zeros(31), "\x09"+zeros(31)
	for n := range 1000 {
		k, u = share(t, k, u), k
		if n == 0 && k != unhex(t, "422c8e7a6227d7bca1350b3e2bb7279f7897b87bb6854b783c60e80311ae3079") {
			t.Errorf("after one time: %x", k)
		}
	}
	if k != unhex(t, "684cf59ba83309552800ef566f2f4d3c1c3887c49360e3875f2eb94d99532c51") {
		t.Errorf("after a thousand times: %x", k)
	}
}

// P9.1, P9.2, P9.3: the two ends that RFC 7748 publishes in 6.1.
func TestPublishedEnds(t *testing.T) {
	a := unhex(t, "77076d0a7318a57d3c16c17251b26645df4c2f87ebc0992ab177fba51db92c2a")
	b := unhex(t, "5dab087e624a8a4b79e17f8b83800ee66f3bb1292618b6fd1c2f8b27ff88e0eb")
	x := unhex(t, "8520f0098930a754748b7ddcb43ef75a0dbf3a0d26381af4eba4a98eaa9b4e6a")
	y := unhex(t, "de9edb7d7b7dc1b4d35b61c2ece435373f8343c85b78674dadfc7e146f882b4f")
	want := unhex(t, "4a5d9d5ba4ce2de1728e3bf480350f25e07e21c947d19e3376f09b3c1e161742")
	if publicOf(t, a) != x || publicOf(t, b) != y {
		t.Errorf("%x, %x", publicOf(t, a), publicOf(t, b))
	}
	checkShare(t, a, y, want, api.OK)
	checkShare(t, b, x, want, api.OK)
}

// lengths is those of right and of wrong secrets and publics.
func lengths() []int {
	out := []int{95, 96, 97, 127, 128, 255, 256, 256 + 32, 65536, 65536 + 32}
	for n := range 68 {
		out = append(out, n)
	}
	return out
}

// P9.1: a secret or a public of any length but 32 bytes is refused, each alone
// and both at once, also if they would come to nothing but zeros.
func TestWrongLengthsOfShare(t *testing.T) {
	some := []int{0, 1, 31, 32, 33, 64, 256 + 32}
	for _, n := range lengths() {
		for _, m := range some {
			for _, pair := range [][2]int{{n, m}, {m, n}} {
				secret, public := sample(1, pair[0]), sample(2, pair[1])
				if n == 32 && m == 32 {
					checkLibrary(t, secret, public)
				} else {
					checkShare(t, secret, public, "", api.ErrKey)
					checkShare(t, zeros(pair[0]), zeros(pair[1]), "", api.ErrKey)
					checkShare(t, ones(pair[0]), ("\x09" + zeros(pair[1]))[:pair[1]], "", api.ErrKey)
				}
			}
		}
	}
}

// P9.2: a secret of any length but 32 bytes is refused.
func TestWrongLengthsOfPublic(t *testing.T) {
	for _, n := range lengths() {
		for _, s := range []string{sample(n, n), zeros(n), ones(n)} {
			out, e := ladder.Public(s)
			if n == 32 {
				if e != api.OK || len(out) != 32 {
					t.Errorf("32 bytes: %x, %v", out, e)
				}
			} else if out != "" || e != api.ErrKey {
				t.Errorf("%d bytes: %x, %v", n, out, e)
			}
		}
	}
}

// P9.1: the publics that the document's words single out, written out. The
// results were worked out by sums of points, without a ladder.
func TestPublicsAtTheEdges(t *testing.T) {
	secret := strings.Repeat("\x11", 32)
	two := unhex(t, "efe24f29dd4249c0226562d523dd9f82d2fc7c1ba1e015e4b3429924c929063e")
	eighteen := unhex(t, "b51d76c9b113c3a37af043c5686d98fcc0c421d50607ef95f3f2b34cbe0aa970")
	for _, c := range []struct{ public, want string }{
		{zeros(32), ""},
		{"\x01" + zeros(31), ""},
		{"\x02" + zeros(31), two},
		{"\x12" + zeros(31), eighteen},
		{"\xeb" + ones(30) + "\x7f", unhex(t, "cf9bf42e236b18fd3e62ff6d81d2494cd6e6142475fc6631b1df655e419d5b2b")},
		{"\xec" + ones(30) + "\x7f", ""},
		{"\xed" + ones(30) + "\x7f", ""},
		{"\xee" + ones(30) + "\x7f", ""},
		{"\xef" + ones(30) + "\x7f", two},
		{"\xfe" + ones(30) + "\x7f", unhex(t, "0d8eabfaabc2e4d8e1547e30bf482809949713a30ee1585cd4199769cdf86a1e")},
		{ones(31) + "\x7f", eighteen},
		{unhex(t, "e0eb7a7c3b41b8ae1656e3faf19fc46ada098deb9c32b1fd866205165f49b800"), ""},
		{unhex(t, "5f9c95bca3508c24b1d0b1559c83ef5b04445cc4581c8e86d8224eddd09f1157"), ""},
	} {
		want := api.OK
		if c.want == "" {
			want = api.ErrKey
		}
		checkShare(t, secret, c.public, c.want, want)
		checkShare(t, secret, flipped(c.public, 255), c.want, want)
	}
}

// P9.1: a public of p and more is the one that is p less.
func TestPublicsFromPOn(t *testing.T) {
	for _, s := range []string{zeros(32), ones(32), sample(1, 32)} {
		for n := range int64(19) {
			want, e := ladder.Share(s, encoded(small(n)))
			if (n < 2) != (e == api.ErrKey) {
				t.Errorf("the public %d: %v", n, e)
			}
			checkShare(t, s, encoded(plus(prime(), small(n))), want, e)
		}
	}
}

// P9.1: whatever the secret is, the publics whose result is all zero are
// refused, and no others: not those beside them.
func TestAllZeroResults(t *testing.T) {
	refused := map[string]int{}
	for _, u := range allZero() {
		refused[u] = 1
		for _, s := range secrets() {
			checkShare(t, s, u, "", api.ErrKey)
			checkShare(t, s, flipped(u, 255), "", api.ErrKey)
		}
	}
	if len(refused) != 7 {
		t.Errorf("%d publics", len(refused))
	}
	for _, u := range allZero() {
		for n := range 255 {
			if beside := flipped(u, n); refused[beside] == 0 {
				share(t, sample(n, 32), beside)
			}
		}
	}
}

// P9.1: the secrets of no bits and of all bits, written out, with the base
// point, with a public whose point is on the curve and with one whose point is
// on its twist. The results were worked out by sums of points, without a
// ladder.
func TestSecretsAtTheEdges(t *testing.T) {
	two, beside := "\x02"+zeros(31), "\xeb"+ones(30)+"\x7f"
	for _, c := range []struct{ secret, base, two, beside string }{
		{zeros(32), "2fe57da347cd62431528daac5fbb290730fff684afc4cfc2ed90995f58cb3b74", "1bfd8c01d2fe9fca58ae61ab792b0a68feebfc17a2e95068d12fa5007a519541", "62734de0a77165c7d13e93cae3e6055fe35e1e0c03a1a867d081fe8cc91a235a"},
		{ones(32), "847c0d2c375234f365e660955187a3735a0f7613d1609d3a6a4d8c53aeaa5a22", "5a7fe7f6160ee72b67c6434d69c72e5a7fcd1d6770bcbf23df70510bb1169650", "5c2cc57e180aabc35b96586f294dff95ddab59a0f10cba62afcfe99d847e5b2a"},
	} {
		if got := publicOf(t, c.secret); got != unhex(t, c.base) {
			t.Errorf("Public(%x): %x", c.secret, got)
		}
		checkShare(t, c.secret, "\x09"+zeros(31), unhex(t, c.base), api.OK)
		checkShare(t, c.secret, two, unhex(t, c.two), api.OK)
		checkShare(t, c.secret, beside, unhex(t, c.beside), api.OK)
	}
	both := unhex(t, "f12f59031bae093b8575957f3e10cc799c437778e5d6cf4ea04542135c3dcd11")
	checkShare(t, zeros(32), publicOf(t, ones(32)), both, api.OK)
	checkShare(t, ones(32), publicOf(t, zeros(32)), both, api.OK)
}

// P9.1: secrets and publics of each kind, in pairs, against the Go library.
func TestPairsAgainstLibrary(t *testing.T) {
	for _, s := range secrets() {
		for _, u := range publics() {
			checkLibrary(t, s, u)
		}
	}
}

// P9.1: the same against the document's own steps in big integers; a secret
// with each public, and a public with each secret.
func TestPairsAgainstSteps(t *testing.T) {
	check := func(secret, public string) {
		want, e := reckoned(secret, public)
		checkShare(t, secret, public, want, e)
	}
	for i, u := range publics() {
		check(sample(i, 32), u)
		check(sample(i, 32), flipped(u, 255))
	}
	for i, s := range secrets() {
		check(s, sample(i, 32))
		check(s, "\x09"+zeros(31))
	}
	for i := range 300 {
		check(sample(2*i, 32), sample(2*i+1, 32))
	}
}

// P9.1: each bit of a public counts, but for the highest one, which does not.
func TestEveryBitOfPublic(t *testing.T) {
	s := sample(3, 32)
	for _, u := range []string{sample(4, 32), "\x06" + zeros(31)} {
		first := share(t, s, u)
		for n := range 255 {
			if got := share(t, s, flipped(u, n)); got == first {
				t.Errorf("bit %d of %x does not count", n, u)
			}
			checkLibrary(t, s, flipped(u, n))
		}
		checkShare(t, s, flipped(u, 255), first, api.OK)
	}
}

// P9.1: the highest bit of a public is ignored in publics of each kind.
func TestHighestBitOfPublic(t *testing.T) {
	for i, u := range publics() {
		want, e := ladder.Share(sample(i, 32), u)
		checkShare(t, sample(i, 32), flipped(u, 255), want, e)
	}
}

// P9.2: Public is Share with the byte 9 and 31 zero bytes, and is right.
func TestPublicIsShare(t *testing.T) {
	list := secrets()
	for i := range 200 {
		list = append(list, sample(1000+i, 32))
	}
	for _, s := range list {
		x := publicOf(t, s)
		checkShare(t, s, "\x09"+zeros(31), x, api.OK)
		k, err := ecdh.X25519().NewPrivateKey([]byte(s))
		if err != nil {
			t.Fatal(err)
		}
		if want := string(k.PublicKey().Bytes()); x != want {
			t.Errorf("Public(%x): %x, not %x", s, x, want)
		}
	}
}

// P9.3: two secrets come to the same, whichever of them is public, and so do
// secrets of each kind, also one with itself.
func TestBothEndsAgree(t *testing.T) {
	list := secrets()
	keys := make([]string, len(list))
	for i, s := range list {
		keys[i] = publicOf(t, s)
	}
	for i := range list {
		for j := range i + 1 {
			checkShare(t, list[i], keys[j], share(t, list[j], keys[i]), api.OK)
		}
	}
}

// P9.1, P9.3: results are publics in their turn: the order in which secrets
// come to a public is the same to it, be its point on the curve or its twist.
func TestOrderOfSecrets(t *testing.T) {
	for i := range 40 {
		a, b, u := sample(3*i, 32), sample(3*i+1, 32), sample(3*i+2, 32)
		checkShare(t, a, share(t, b, u), share(t, b, share(t, a, u)), api.OK)
	}
}

// alike is s with all choices of the five bits that are cleared or set.
func alike(s string) []string {
	list := []string{s}
	for _, n := range []int{0, 1, 2, 254, 255} {
		for _, v := range slices.Clone(list) {
			list = append(list, flipped(v, n))
		}
	}
	return list
}

// P9.3: the bits of a secret that are cleared or set do not influence Public
// or Share, not in any choice of them, nor what two ends come to.
func TestBitsWithoutInfluence(t *testing.T) {
	y := publicOf(t, sample(9, 32))
	for _, s := range []string{sample(1, 32), sample(2, 32), zeros(32), ones(32), strings.Repeat("\x11", 32)} {
		x, shared := publicOf(t, s), share(t, s, y)
		list := alike(s)
		if len(list) != 32 {
			t.Errorf("%d choices", len(list))
		}
		for _, v := range list {
			if got := publicOf(t, v); got != x {
				t.Errorf("Public(%x): %x, not %x", v, got, x)
			}
			checkShare(t, v, y, shared, api.OK)
			checkShare(t, v, zeros(32), "", api.ErrKey)
			checkShare(t, sample(9, 32), publicOf(t, v), shared, api.OK)
		}
	}
}

// P9.1, P9.3: all other bits of a secret do influence the result, which is the
// right one.
func TestEveryOtherBitOfSecret(t *testing.T) {
	u := sample(5, 32)
	for _, s := range []string{sample(6, 32), zeros(32), ones(32)} {
		first := share(t, s, u)
		for n := 3; n < 254; n++ {
			if share(t, flipped(s, n), u) == first {
				t.Errorf("bit %d of %x does not count", n, s)
			}
			checkLibrary(t, flipped(s, n), u)
		}
	}
}

// P9.1: a secret and a public are not each other.
func TestSecretAndPublicAreNotExchanged(t *testing.T) {
	a, b := sample(1, 32), sample(2, 32)
	if share(t, a, b) == share(t, b, a) {
		t.Error("Share is the same either way round")
	}
	checkLibrary(t, a, b)
	checkLibrary(t, b, a)
}

// P9.1: the results are the least numbers, as field's Of takes them back.
func TestResultsAreNumbers(t *testing.T) {
	for i, u := range publics() {
		out, e := ladder.Share(sample(i, 32), u)
		if e != api.OK {
			continue
		}
		if v, e := field.Of(out); e != api.OK || v.Bytes() != out || v == (field.Num{}) {
			t.Errorf("%x is none: %v", out, e)
		}
	}
}

// R2: the arguments and what lies behind them stay as they are, and an answer
// is memory of its own.
func TestNothingIsShared(t *testing.T) {
	memory := []byte(sample(1, 200))
	secret, public := unsafe.String(&memory[10], 32), unsafe.String(&memory[60], 32)
	wantShared, wantPublic := share(t, sample(1, 200)[10:42], sample(1, 200)[60:92]), publicOf(t, sample(1, 200)[10:42])
	shared, own := share(t, secret, public), publicOf(t, secret)
	if string(memory) != sample(1, 200) {
		t.Error("an argument has changed")
	}
	if unsafe.StringData(shared) == unsafe.StringData(share(t, secret, public)) || unsafe.StringData(own) == unsafe.StringData(publicOf(t, secret)) {
		t.Error("two answers share memory")
	}
	clear(memory)
	if shared != wantShared || own != wantPublic {
		t.Error("an answer has changed with an argument")
	}
}

// R3: a call leaves nothing behind that another one would see, be it ahead of
// it or at the same time.
func TestCallsAreApart(t *testing.T) {
	want := make([]string, 8)
	for i := range want {
		want[i] = share(t, sample(i, 32), sample(i+1, 32)) + publicOf(t, sample(i, 32))
		ladder.Share("short", zeros(32))
		ladder.Share(zeros(32), zeros(32))
	}
	var all sync.WaitGroup
	for i := range want {
		all.Go(func() {
			for range 20 {
				shared, _ := ladder.Share(sample(i, 32), sample(i+1, 32))
				own, _ := ladder.Public(sample(i, 32))
				if shared+own != want[i] {
					t.Errorf("%x and %x, not %x", shared, own, want[i])
				}
			}
		})
	}
	all.Wait()
}

func BenchmarkShare(b *testing.B) {
	s, u := sample(1, 32), sample(2, 32)
	for b.Loop() {
		share(b, s, u)
	}
}
