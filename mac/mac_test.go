package mac_test

import (
	"crypto/hkdf"
	"crypto/hmac"
	"crypto/sha256"
	"crypto/sha512"
	"encoding/hex"
	"hash"
	"math"
	"math/rand"
	"strings"
	"testing"

	"cresset/api"
	"cresset/mac"
)

// sample is n bytes of all values, without a short period; no two seeds have
// the same.
func sample(seed, n int) string {
	b := make([]byte, n)
	rand.New(rand.NewSource(int64(seed))).Read(b)
	return string(b)
}

func unhex(t *testing.T, s string) string {
	t.Helper()
	b, err := hex.DecodeString(s)
	if err != nil {
		t.Fatal(err)
	}
	return string(b)
}

// libraryHmac is the standard library's answer.
func libraryHmac(size int, key, data string) string {
	function := map[int]func() hash.Hash{32: sha256.New, 64: sha512.New}[size]
	h := hmac.New(function, []byte(key))
	h.Write([]byte(data))
	return string(h.Sum(nil))
}

// libraryExpand is the standard library's answer.
func libraryExpand(t *testing.T, key, info string, n int) string {
	t.Helper()
	out, err := hkdf.Expand(sha256.New, []byte(key), info, n)
	if err != nil {
		t.Fatal(err)
	}
	return string(out)
}

// info is the info of Label that the document describes, put together apart
// from the program.
func info(label, context string, n int) string {
	full := "tls13 " + label
	return string([]byte{byte(n / 256), byte(n % 256), byte(len(full))}) + full +
		string([]byte{byte(len(context))}) + context
}

func code(t *testing.T, size int, key, data string) string {
	t.Helper()
	got, e := mac.Mac(size, key, data)
	if e != api.OK {
		t.Fatalf("Mac(%d) of a key of %d bytes = %v", size, len(key), e)
	}
	return got
}

func expand(t *testing.T, key, info string, n int) string {
	t.Helper()
	got, e := mac.Expand(key, info, n)
	if e != api.OK {
		t.Fatalf("Expand(%d) = %v", n, e)
	}
	return got
}

func label(t *testing.T, key, label, context string, n int) string {
	t.Helper()
	got, e := mac.Label(key, label, context, n)
	if e != api.OK {
		t.Fatalf("Label(%d) of %d and %d bytes = %v", n, len(label), len(context), e)
	}
	return got
}

// lengthsOfN are lengths of a result: 0, multiples of 32, those beside them,
// and the greatest.
func lengthsOfN() []int {
	out := []int{0, 1, 2, 16, 42, 48, 300, 8159, 8160}
	for _, codes := range []int{1, 2, 3, 8, 16, 63, 127, 128, 129, 254} {
		out = append(out, 32*codes-1, 32*codes, 32*codes+1)
	}
	return out
}

// P2.1: codes that RFC 4231 and the document publish, so that they hang on no
// other program.
func TestPublishedCodes(t *testing.T) {
	for i, c := range []struct{ key, data, short, long string }{
		{
			strings.Repeat("\x0b", 20), "Hi There",
			"b0344c61d8db38535ca8afceaf0bf12b881dc200c9833da726e9376c2e32cff7",
			"87aa7cdea5ef619d4ff0b4241a1d6cb02379f4e2ce4ec2787ad0b30545e17cdedaa833b7d6b8a702038b274eaea3f4e4be9d914eeb61f1702e696c203a126854",
		},
		{
			"Jefe", "what do ya want for nothing?",
			"5bdcc146bf60754e6a042426089575c75a003f089d2739839dec58b964ec3843",
			"164b7a7bfcf819e2e395fbe73b56e0a387bd64222e831fd610270cd7ea2505549758bf75c05a994a6d034f65f8f0e6fdcaeab1a34d4a6b4b636e070a38bce737",
		},
		{
			strings.Repeat("\xaa", 131), "Test Using Larger Than Block-Size Key - Hash Key First",
			"60e431591ee0b67f0d8a26aacbf5b77f8e0bc6213728c5140546040f0ee37f54",
			"80b24263c7c1a3ebb71493c1dd7be8b49b46d1f41b4aeec1121b013783f8f3526b56d037e05f2598bd0fd2215d6a1e5295e64f73f63f0aec8b915a985d786598",
		},
	} {
		if got := hex.EncodeToString([]byte(code(t, 32, c.key, c.data))); got != c.short {
			t.Errorf("case %d, 32: %s", i, got)
		}
		if got := hex.EncodeToString([]byte(code(t, 64, c.key, c.data))); got != c.long {
			t.Errorf("case %d, 64: %s", i, got)
		}
	}
	got := code(t, 32, "key", "The quick brown fox jumps over the lazy dog")
	if !strings.HasPrefix(got, "\xf7\xbc\x83\xf4") {
		t.Errorf("the document's example: %x", got)
	}
}

// P2.1: the block key at its edges: no key, a key of a digest, of a block, and
// those beside them, for both sizes.
func TestMacOfEveryLengthOfKey(t *testing.T) {
	for _, size := range []int{32, 64} {
		for n := range 300 {
			key, data := sample(n, n), sample(1000+n, n%7)
			if got := code(t, size, key, data); got != libraryHmac(size, key, data) {
				t.Errorf("Mac(%d) of a key of %d bytes: %x", size, n, got)
			}
		}
	}
}

// P2.1: a key longer than a block is its digest, a shorter one is filled up
// with zero bytes, and a whole block is neither.
func TestBlockKey(t *testing.T) {
	for _, size := range []int{32, 64} {
		block := 2 * size
		digest := func(s string) string {
			if size == 32 {
				d := sha256.Sum256([]byte(s))
				return string(d[:])
			}
			d := sha512.Sum512([]byte(s))
			return string(d[:])
		}
		for _, n := range []int{block - 1, block, block + 1} {
			key := sample(size+n, n)
			whole := code(t, size, key, "data")
			if digested := code(t, size, digest(key), "data"); (whole == digested) != (n > block) {
				t.Errorf("size %d, key of %d bytes: digested %v", size, n, whole == digested)
			}
			if filled := code(t, size, key+"\x00", "data"); (whole == filled) != (n < block) {
				t.Errorf("size %d, key of %d bytes: filled up %v", size, n, whole == filled)
			}
		}
	}
}

// P2.1: data of every length around a block, and some that is long.
func TestMacOfEveryLengthOfData(t *testing.T) {
	for _, size := range []int{32, 64} {
		for _, n := range append([]int{1000, 100000}, lengths(0, 270)...) {
			key, data := sample(size, size), sample(n, n)
			if got := code(t, size, key, data); got != libraryHmac(size, key, data) {
				t.Errorf("Mac(%d) of %d bytes: %x", size, n, got)
			}
		}
	}
}

func lengths(from, to int) []int {
	var out []int
	for n := from; n <= to; n++ {
		out = append(out, n)
	}
	return out
}

// P2.1: every size but two is refused, with nothing beside the error.
func TestMacOfWrongSize(t *testing.T) {
	for _, size := range []int{math.MinInt, -64, -32, -1, 0, 1, 20, 31, 33, 48, 63, 65, 128, 512, 1<<32 + 32, math.MaxInt} {
		for _, key := range []string{"", "k", sample(1, 200)} {
			if got, e := mac.Mac(size, key, "data"); got != "" || e != api.ErrArg {
				t.Errorf("Mac(%d) = %x, %v", size, got, e)
			}
		}
	}
}

// P2.1: the salt is a key; an empty one is 32 zero bytes.
func TestExtract(t *testing.T) {
	for _, n := range []int{0, 1, 13, 31, 32, 33, 63, 64, 65, 80, 200} {
		for _, m := range []int{0, 1, 22, 32, 64, 300} {
			salt, input := sample(n, n), sample(2000+m, m)
			if got := mac.Extract(salt, input); got != libraryHmac(32, salt, input) || got != code(t, 32, salt, input) {
				t.Errorf("Extract of %d and %d bytes: %x", n, m, got)
			}
		}
	}
	for _, input := range []string{"", "input", sample(5, 100)} {
		got := mac.Extract("", input)
		if got != libraryHmac(32, strings.Repeat("\x00", 32), input) {
			t.Errorf("Extract with an empty salt: %x", got)
		}
	}
}

// P2.1 and P2.2: what RFC 5869 publishes, its cases 1 to 3.
func TestPublishedDerivation(t *testing.T) {
	count := func(from, to int) string {
		out := []byte{}
		for v := from; v <= to; v++ {
			out = append(out, byte(v))
		}
		return string(out)
	}
	for i, c := range []struct{ input, salt, info, extracted, expanded string }{
		{
			strings.Repeat("\x0b", 22), count(0, 0x0c), count(0xf0, 0xf9),
			"077709362c2e32df0ddc3f0dc47bba6390b6c73bb50f9c3122ec844ad7c2b3e5",
			"3cb25f25faacd57a90434f64d0362f2a2d2d0a90cf1a5a4c5db02d56ecc4c5bf34007208d5b887185865",
		},
		{
			count(0, 0x4f), count(0x60, 0xaf), count(0xb0, 0xff),
			"06a6b88c5853361a06104c9ceb35b45cef760014904671014a193f40c15fc244",
			"b11e398dc80327a1c8e7f78c596a49344f012eda2d4efad8a050cc4c19afa97c59045a99cac7827271cb41c65e590e09da3275600c2f09b8367793a9aca3db71cc30c58179ec3e87c14c01d5c1f3434f1d87",
		},
		{
			strings.Repeat("\x0b", 22), "", "",
			"19ef24a32c717b167f33a91d6f648bdf96596776afdb6377ac434c1c293ccb04",
			"8da4e775a563c18f715f802a063c5a31b8a11f5c5ee1879ec3454e5f3c738d2d9d201395faa4b61a96c8",
		},
	} {
		key := mac.Extract(c.salt, c.input)
		if key != unhex(t, c.extracted) {
			t.Errorf("case %d: Extract = %x", i+1, key)
		}
		want := unhex(t, c.expanded)
		if got := expand(t, key, c.info, len(want)); got != want {
			t.Errorf("case %d: Expand = %x", i+1, got)
		}
	}
}

// P2.2: 0 and all that follow, past many multiples of 32, and up to 8160.
func TestExpandOfEveryLength(t *testing.T) {
	for _, n := range append(lengths(0, 600), lengthsOfN()...) {
		key, info := sample(n, 32), sample(3000+n, n%11)
		if got := expand(t, key, info, n); got != libraryExpand(t, key, info, n) {
			t.Errorf("Expand(%d) is wrong, with %d bytes", n, len(got))
		}
	}
}

// P2.2: keys and infos of all lengths: empty, of a block and beside it, long.
func TestExpandOfKeysAndInfos(t *testing.T) {
	for _, k := range []int{0, 1, 31, 32, 33, 63, 64, 65, 500} {
		for _, i := range []int{0, 1, 32, 55, 56, 64, 1000} {
			key, info := sample(k, k), sample(4000+i, i)
			if got := expand(t, key, info, 100); got != libraryExpand(t, key, info, 100) {
				t.Errorf("Expand of %d and %d bytes: %x", k, i, got)
			}
		}
	}
	if got := expand(t, "", "", 64); got != libraryExpand(t, "", "", 64) {
		t.Errorf("Expand of nothing: %x", got)
	}
}

// P2.2 and P2.3: an n that is negative or too great, with nothing beside the
// error.
func TestWrongLengths(t *testing.T) {
	for _, c := range []struct {
		n    int
		want api.Errno
	}{
		{math.MinInt, api.ErrArg}, {-8161, api.ErrArg}, {-32, api.ErrArg}, {-1, api.ErrArg},
		{8161, api.ErrBig}, {8192, api.ErrBig}, {65536, api.ErrBig}, {65537, api.ErrBig},
		{1<<32 + 1, api.ErrBig}, {math.MaxInt, api.ErrBig},
	} {
		for _, key := range []string{"", "key", sample(1, 100)} {
			if got, e := mac.Expand(key, "info", c.n); got != "" || e != c.want {
				t.Errorf("Expand(%d) = %d bytes, %v", c.n, len(got), e)
			}
			if got, e := mac.Label(key, "label", "context", c.n); got != "" || e != c.want {
				t.Errorf("Label(%d) = %d bytes, %v", c.n, len(got), e)
			}
		}
	}
}

// P2.3: a secret that RFC 8448 publishes: the derived secret of the early one.
func TestPublishedLabel(t *testing.T) {
	early := mac.Extract("", strings.Repeat("\x00", 32))
	if early != unhex(t, "33ad0a1c607ec03b09e6cd9893680ce210adf300aa1f2660e1b22e10f170f92a") {
		t.Errorf("early secret: %x", early)
	}
	none := sha256.Sum256(nil)
	derived := label(t, early, "derived", string(none[:]), 32)
	if derived != unhex(t, "6f2615a108c702c5678f54fc9dbab69716c076189c48250cebeac3576c3611ba") {
		t.Errorf("derived secret: %x", derived)
	}
}

// P2.3: labels and contexts of every length that is allowed.
func TestLabelOfEveryLength(t *testing.T) {
	key := sample(1, 32)
	for n := range 256 {
		l, c := sample(5000+n, min(n, 249)), sample(6000+n, 255-n)
		if got := label(t, key, l, c, 40); got != libraryExpand(t, key, info(l, c, 40), 40) {
			t.Errorf("Label of %d and %d bytes: %x", len(l), len(c), got)
		}
	}
	for _, l := range []int{0, 249} {
		for _, c := range []int{0, 255} {
			ls, cs := sample(l, l), sample(c+1, c)
			if got := label(t, key, ls, cs, 70); got != libraryExpand(t, key, info(ls, cs, 70), 70) {
				t.Errorf("Label of %d and %d bytes: %x", l, c, got)
			}
		}
	}
}

// P2.3: n is part of the info, in both its bytes.
func TestLabelOfEveryN(t *testing.T) {
	for _, n := range lengthsOfN() {
		key := sample(7000+n, n%80)
		got := label(t, key, "traffic", "hash", n)
		if got != libraryExpand(t, key, info("traffic", "hash", n), n) {
			t.Errorf("Label(%d) is wrong, with %d bytes", n, len(got))
		}
		if got != expand(t, key, info("traffic", "hash", n), n) {
			t.Errorf("Label(%d) is not what Expand returns", n)
		}
	}
}

// P2.3: what is too long, and which error comes first when there are several.
func TestWrongLabels(t *testing.T) {
	for _, c := range []struct {
		label, context, n int
		want              api.Errno
	}{
		{249, 255, 8160, api.OK},
		{249, 255, 0, api.OK},
		{0, 0, 0, api.OK},
		{250, 0, 5, api.ErrBig},
		{250, 255, 0, api.ErrBig},
		{256, 0, 5, api.ErrBig},
		{506, 0, 5, api.ErrBig},
		{0, 256, 5, api.ErrBig},
		{249, 256, 0, api.ErrBig},
		{0, 512, 5, api.ErrBig},
		{249, 255, 8161, api.ErrBig},
		{100000, 100000, 100000, api.ErrBig},
		{0, 0, -1, api.ErrArg},
		{250, 0, -1, api.ErrArg},
		{0, 256, -1, api.ErrArg},
		{250, 256, -1, api.ErrArg},
		{250, 256, math.MinInt, api.ErrArg},
	} {
		got, e := mac.Label("key", strings.Repeat("l", c.label), strings.Repeat("c", c.context), c.n)
		if e != c.want {
			t.Errorf("Label(%d) of %d and %d bytes: %v", c.n, c.label, c.context, e)
		}
		if e != api.OK && got != "" {
			t.Errorf("Label(%d) of %d and %d bytes: %d bytes beside an error", c.n, c.label, c.context, len(got))
		}
		if e == api.OK && len(got) != c.n {
			t.Errorf("Label(%d) of %d and %d bytes: %d bytes", c.n, c.label, c.context, len(got))
		}
	}
}

// P2.3: equal or not: in a single bit at every place, in the length, in
// nothing.
func TestSame(t *testing.T) {
	if !mac.Same("", "") || mac.Same("", "a") || mac.Same("a", "") || mac.Same("", "\x00") {
		t.Error("with the empty string")
	}
	for _, n := range []int{1, 2, 16, 32, 64, 1000} {
		a := sample(n, n)
		if !mac.Same(a, strings.Clone(a)) || !mac.Same(a, a) {
			t.Errorf("%d equal bytes", n)
		}
		for _, b := range []string{a[:n-1], a[1:], a + "\x00", "\x00" + a, a + a} {
			if mac.Same(a, b) || mac.Same(b, a) {
				t.Errorf("%d and %d bytes", n, len(b))
			}
		}
		for bit := range 8 * n {
			b := []byte(a)
			b[bit/8] ^= 1 << (bit % 8)
			if mac.Same(a, string(b)) || mac.Same(string(b), a) {
				t.Errorf("%d bytes that differ in bit %d", n, bit)
			}
		}
	}
	if mac.Same("\x01\x02", "\x02\x01") || mac.Same("\x01\x00", "\x00\x01") || mac.Same("\x01\x01", "\x00\x00") {
		t.Error("differences that cancel out")
	}
}

// P2.4: a smaller result is a prefix of a greater one.
func TestShorterIsPrefix(t *testing.T) {
	for _, c := range []struct{ key, info string }{{"", ""}, {"key", ""}, {"", "info"}, {sample(1, 32), sample(2, 40)}, {sample(3, 65), sample(4, 300)}} {
		longest := expand(t, c.key, c.info, 8160)
		for _, n := range lengthsOfN() {
			if got := expand(t, c.key, c.info, n); len(got) != n || !strings.HasPrefix(longest, got) {
				t.Errorf("Expand(%d) of %d bytes is no prefix of Expand(8160)", n, len(got))
			}
		}
	}
}

// P2.4: a code is as long as the digest.
func TestLengthOfCode(t *testing.T) {
	for _, size := range []int{32, 64} {
		for _, n := range []int{0, 1, 31, 32, 33, 63, 64, 65, 127, 128, 129, 1000} {
			if got := code(t, size, sample(n, n), sample(n+1, n)); len(got) != size {
				t.Errorf("Mac(%d) has %d bytes", size, len(got))
			}
		}
	}
}

// R3: a call leaves nothing behind that another one would see.
func TestCallsAreApart(t *testing.T) {
	first := code(t, 64, sample(1, 128), "data")
	code(t, 64, sample(2, 100), "other")
	mac.Mac(48, sample(3, 300), "")
	if again := code(t, 64, sample(1, 128), "data"); again != first {
		t.Errorf("%x, then %x", first, again)
	}
	if short := code(t, 32, "k", "data"); short != libraryHmac(32, "k", "data") {
		t.Errorf("a short key after a long one: %x", short)
	}
}
