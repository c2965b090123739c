package seal_test

import (
	"crypto/sha256"
	"encoding/binary"
	"encoding/hex"
	"math"
	"math/big"
	"math/rand"
	"strings"
	"sync"
	"testing"
	"unsafe"

	"cresset/api"
	"cresset/chacha"
	"cresset/gcm"
	"cresset/poly"
	"cresset/seal"
)

const (
	gcmSuite    = 4865
	chachaSuite = 4867
	most        = 1048576 // bytes of the associated data, and of the plaintext
)

// sample is n bytes of all values, without a short period; no two seeds have
// the same.
func sample(seed, n int) string {
	b := make([]byte, n)
	rand.New(rand.NewSource(int64(seed))).Read(b)
	return string(b)
}

// pattern is n bytes by a rule that can be written in any language.
func pattern(a, n int) string {
	b := make([]byte, n)
	for i := range b {
		b[i] = byte(i*i*7 + i*a + a + i>>8*13)
	}
	return string(b)
}

func unhex(t *testing.T, s string) string {
	t.Helper()
	b, err := hex.DecodeString(s)
	if err != nil {
		t.Fatal(err)
	}
	return string(b)
}

// nothing is as many zero bytes as a test asks for, made once for all of them.
var nothing = strings.Repeat("\x00", 3*most)

// zeros and ones are n bytes of no bits and of all bits.
func zeros(n int) string { return nothing[:n] }
func ones(n int) string  { return strings.Repeat("\xff", n) }

// flipped is text with the bits of mask changed in the byte at i.
func flipped(text string, i int, mask byte) string {
	b := []byte(text)
	b[i] ^= mask
	return string(b)
}

// xor is a xor b, byte by byte; b may be longer.
func xor(a, b string) string {
	out := []byte(a)
	for i := range out {
		out[i] ^= b[i]
	}
	return string(out)
}

// keyFor is a key of the right length.
func keyFor(suite, seed int) string {
	if suite == gcmSuite {
		return sample(seed, 16)
	}
	return sample(seed, 32)
}

// others are numbers that no suite has, among them some that would be one if
// only their low bits counted, or only their size.
func others() []int {
	list := []int{0, 1, -1, 4864, 4866, 4868, 16, 32, math.MaxInt, math.MinInt}
	for _, suite := range []int{gcmSuite, chachaSuite} {
		list = append(list, -suite, ^suite, suite+1<<16, suite-1<<16, suite+math.MinInt, suite<<1, suite>>8, suite&255, suite>>8|suite&255<<8)
	}
	return list
}

// lengths is that of two texts in bytes, as the tag has them.
func lengths(beside, hidden string) string {
	b := binary.LittleEndian.AppendUint64(nil, uint64(len(beside)))
	return string(binary.LittleEndian.AppendUint64(b, uint64(len(hidden))))
}

// whole is text and zero bytes up to a multiple of 16.
func whole(text string) string {
	for len(text)%16 != 0 {
		text += "\x00"
	}
	return text
}

// block is a block of the key stream, from the layer below.
func block(t *testing.T, key, nonce string, n int) string {
	t.Helper()
	out, e := chacha.Block(key, nonce, n)
	if e != api.OK {
		t.Fatalf("chacha.Block of %d and %d bytes, %d: %v", len(key), len(nonce), n, e)
	}
	return out
}

// expectedSeal is the document's words about suite 4867, worked out apart from
// the program.
func expectedSeal(t *testing.T, key, nonce, beside, plain string) string {
	t.Helper()
	var stream strings.Builder
	for i := 1; stream.Len() < len(plain); i++ {
		stream.WriteString(block(t, key, nonce, i))
	}
	hidden := xor(plain, stream.String())
	tag, e := poly.Tag(block(t, key, nonce, 0)[:32], whole(beside)+whole(hidden)+lengths(beside, hidden))
	if e != api.OK {
		t.Fatalf("poly.Tag: %v", e)
	}
	return hidden + tag
}

func sealed(t *testing.T, suite int, key, nonce, beside, plain string) string {
	t.Helper()
	got, e := seal.Seal(suite, key, nonce, beside, plain)
	if e != api.OK || len(got) != len(plain)+16 {
		t.Fatalf("Seal(%d, %x, %x, %d bytes, %d bytes) = %d bytes, %v", suite, key, nonce, len(beside), len(plain), len(got), e)
	}
	return got
}

// opens checks that text is plain again.
func opens(t *testing.T, suite int, key, nonce, beside, text, plain string) {
	t.Helper()
	if got, e := seal.Open(suite, key, nonce, beside, text); got != plain || e != api.OK {
		t.Errorf("Open(%d, %x, %x, %d bytes, %d bytes) = %d bytes, %v", suite, key, nonce, len(beside), len(text), len(got), e)
	}
}

// refuses checks that Open answers the error alone.
func refuses(t *testing.T, want api.Errno, suite int, key, nonce, beside, text string) {
	t.Helper()
	if got, e := seal.Open(suite, key, nonce, beside, text); got != "" || e != want {
		t.Errorf("Open(%d, %d, %d, %d, %d bytes) = %d bytes, %v, not %v", suite, len(key), len(nonce), len(beside), len(text), len(got), e, want)
	}
}

func nonceOf(t *testing.T, iv string, n int) string {
	t.Helper()
	got, e := seal.Nonce(iv, n)
	if e != api.OK || len(got) != 12 {
		t.Fatalf("Nonce(%x, %d) = %x, %v", iv, n, got, e)
	}
	return got
}

// P7.1: the suites, and no other number.
func TestSize(t *testing.T) {
	if a, b := seal.Size(gcmSuite), seal.Size(chachaSuite); a != 16 || b != 32 {
		t.Errorf("sizes %d and %d", a, b)
	}
	for _, suite := range others() {
		if got := seal.Size(suite); got != 0 {
			t.Errorf("Size(%d) = %d", suite, got)
		}
	}
	for suite := -70000; suite < 140000; suite++ {
		if got := seal.Size(suite); got != 0 && suite != gcmSuite && suite != chachaSuite {
			t.Errorf("Size(%d) = %d", suite, got)
		}
	}
}

// P7.1: the size of a suite is that of the keys which Seal and Open take.
func TestSizeOfKeys(t *testing.T) {
	for _, suite := range []int{gcmSuite, chachaSuite} {
		for n := range 70 {
			key := sample(n, n)
			text, e := seal.Seal(suite, key, zeros(12), "", "x")
			if (e == api.OK) != (n == seal.Size(suite)) {
				t.Errorf("a key of %d bytes of suite %d: %v", n, suite, e)
			}
			if e == api.OK {
				opens(t, suite, key, zeros(12), "", text, "x")
			}
		}
	}
}

// P7.1: the edges of a nonce, written out.
func TestNonce(t *testing.T) {
	iv := unhex(t, "a0a1a2a3a4a5a6a7a8a9aaab")
	for _, c := range []struct {
		iv   string
		n    int
		want string
	}{
		{zeros(12), 258, "000000000000000000000102"},
		{zeros(12), 0, "000000000000000000000000"},
		{zeros(12), 0x01020304, "000000000000000001020304"},
		{ones(12), 0, "ffffffffffffffffffffffff"},
		{ones(12), 1, "fffffffffffffffffffffffe"},
		{iv, 0, "a0a1a2a3a4a5a6a7a8a9aaab"},
		{iv, 1, "a0a1a2a3a4a5a6a7a8a9aaaa"},
		{iv, 255, "a0a1a2a3a4a5a6a7a8a9aa54"},
		{iv, 256, "a0a1a2a3a4a5a6a7a8a9abab"},
		{iv, 65536, "a0a1a2a3a4a5a6a7a8a8aaab"},
	} {
		if got := nonceOf(t, c.iv, c.n); got != unhex(t, c.want) {
			t.Errorf("Nonce(%x, %d) = %x, not %s", c.iv, c.n, got, c.want)
		}
	}
}

// P7.1: numbers of every length, up to the greatest one, by arithmetic on the
// iv as one integer.
func TestNonceOfManyNumbers(t *testing.T) {
	numbers := []int{0, 1, 255, 256, 257, 65535, 65536, math.MaxInt32, math.MaxInt - 1, math.MaxInt}
	for n := 1; n > 0; n <<= 1 {
		numbers = append(numbers, n, n-1, n|1)
	}
	r := rand.New(rand.NewSource(1))
	for range 200 {
		numbers = append(numbers, r.Int())
	}
	for _, iv := range []string{zeros(12), ones(12), sample(1, 12), sample(2, 12)} {
		for _, n := range numbers {
			i := new(big.Int).SetBytes([]byte(iv))
			i.Xor(i, big.NewInt(int64(n)))
			if got := nonceOf(t, iv, n); got != string(i.FillBytes(make([]byte, 12))) {
				t.Errorf("Nonce(%x, %d) = %x", iv, n, got)
			}
		}
	}
}

// P7.1: an iv of another length, which comes ahead of a negative number.
func TestNonceOfWrongArguments(t *testing.T) {
	numbers := []int{0, 1, 255, 256, math.MaxInt32, math.MaxInt, -1, -2, -255, -256, math.MinInt32, math.MinInt + 1, math.MinInt}
	for _, size := range []int{12, 0, 1, 4, 8, 11, 13, 16, 24, 256, 256 + 12, 65536 + 12} {
		for _, n := range numbers {
			want := api.OK
			if size != 12 {
				want = api.ErrKey
			} else if n < 0 {
				want = api.ErrArg
			}
			got, e := seal.Nonce(sample(size, size), n)
			if e != want || (want == api.OK) != (len(got) == 12) || want != api.OK && got != "" {
				t.Errorf("Nonce of %d bytes and %d = %x, %v, not %v", size, n, got, e, want)
			}
		}
	}
}

// P7.3: different numbers have different nonces under one iv.
func TestNoncesDiffer(t *testing.T) {
	for _, iv := range []string{zeros(12), ones(12), sample(3, 12)} {
		seen := map[string]int{}
		add := func(n int) {
			got := nonceOf(t, iv, n)
			if other, ok := seen[got]; ok && other != n {
				t.Errorf("%d and %d have the nonce %x", other, n, got)
			}
			seen[got] = n
		}
		for n := range 70000 {
			add(n)
		}
		for n := 1; n > 0; n <<= 1 {
			add(n)
			add(n - 1)
			add(math.MaxInt - n)
			add(math.MaxInt &^ n)
		}
	}
}

// P7.1, P7.2: records of a published TLS 1.3 connection (RFC 8448, section 3):
// the client's Finished, and the alerts of both ends behind other records.
func TestPublishedRecords(t *testing.T) {
	for i, c := range []struct {
		key, iv string
		n       int
		record  string
		plain   string
	}{
		{"dbfaa693d1762c5b666af5d950258d01", "5bd3c71b836e0b76bb73265f", 0,
			"1703030035" + "75ec4dc238cce60b298044a71e219c56cc77b0517fe9b93c7a4bfc44d87f38f80338ac98fc46deb384bd1caeacab6867d726c40546",
			"14000020a8ec436d677634ae525ac1fcebe11a039ec17694fac6e98527b642f2edd5ce61" + "16"},
		{"17422dda596ed5d9acd890e3c63f5051", "5b78923dee08579033e523d9", 1, "1703030013" + "c9872760655666b74d7ff1153efd6db6d0b0e3", "0100" + "15"},
		{"9f02283b6c9c07efc26bb9f2ac92e356", "cf782b88dd83549aadf1e984", 2, "1703030013" + "b58fd67166ebf599d24720cfbe7efa7a8864a9", "0100" + "15"},
	} {
		key, nonce, record := unhex(t, c.key), nonceOf(t, unhex(t, c.iv), c.n), unhex(t, c.record)
		opens(t, gcmSuite, key, nonce, record[:5], record[5:], unhex(t, c.plain))
		if got := sealed(t, gcmSuite, key, nonce, record[:5], unhex(t, c.plain)); got != record[5:] {
			t.Errorf("record %d: %x", i, got)
		}
	}
}

// P7.2: the published example and test vector of ChaCha20-Poly1305 (RFC 8439,
// sections 2.8.2 and A.5).
func TestPublishedSeals(t *testing.T) {
	for i, c := range []struct{ key, nonce, beside, plain, want string }{
		{"808182838485868788898a8b8c8d8e8f909192939495969798999a9b9c9d9e9f", "070000004041424344454647", "50515253c0c1c2c3c4c5c6c7",
			"Ladies and Gentlemen of the class of '99: If I could offer you only one tip for the future, sunscreen would be it.",
			"d31a8d34648e60db7b86afbc53ef7ec2a4aded51296e08fea9e2b5a736ee62d63dbea45e8ca9671282fafb69da92728b" +
				"1a71de0a9e060b2905d6a5b67ecd3b3692ddbd7f2d778b8c9803aee328091b58fab324e4fad675945585808b4831d7bc" +
				"3ff4def08e4b7a9de576d26586cec64b6116" + "1ae10b594f09e26a7e902ecbd0600691"},
		{"1c9240a5eb55d38af333888604f6b5f0473917c1402b80099dca5cbc207075c0", "000000000102030405060708", "f33388860000000000004e91",
			"Internet-Drafts are draft documents valid for a maximum of six months and may be updated, replaced, or obsoleted by other documents at any time. It is inappropriate to use Internet-Drafts as reference material or to cite them other than as /\u201cwork in progress./\u201d",
			"64a0861575861af460f062c79be643bd5e805cfd345cf389f108670ac76c8cb24c6cfc18755d43eea09ee94e382d26b0" +
				"bdb7b73c321b0100d4f03b7f355894cf332f830e710b97ce98c8a84abd0b948114ad176e008d33bd60f982b1ff37c855" +
				"9797a06ef4f0ef61c186324e2b3506383606907b6a7c02b0f9f6157b53c867e4b9166c767b804d46a59b5216cde7a4e9" +
				"9040c5a40433225ee282a1b0a06c523eaf4534d7f83fa1155b0047718cbc546a0d072b04b3564eea1b422273f548271a" +
				"0bb2316053fa76991955ebd63159434ecebb4e466dae5a1073a6727627097a1049e617d91d361094fa68f0ff77987130" +
				"305beaba2eda04df997b714d6c6f2c29a6ad5cb4022b02709b" + "eead9d67890cbb22392336fea1851f38"},
	} {
		key, nonce, beside, want := unhex(t, c.key), unhex(t, c.nonce), unhex(t, c.beside), unhex(t, c.want)
		if got := sealed(t, chachaSuite, key, nonce, beside, c.plain); got != want {
			t.Errorf("case %d: %x", i, got)
		}
		opens(t, chachaSuite, key, nonce, beside, want, c.plain)
	}
}

// P7.2: what OpenSSL answers, for few bytes.
func TestShortSeals(t *testing.T) {
	for _, c := range []struct {
		beside, plain int
		want          string
	}{
		{0, 0, "be19c4be42aef011dae279ee1a84b891"},
		{1, 0, "9ac02f52593709cb4cdd12b1fcc42274"},
		{0, 1, "43" + "5d20b0276cd32fed116a92ac8be82155"},
		{15, 17, "43319d718f1012a30e2d66bd10273b79af" + "eedb2fd79f62cf6645d03159b60e2681"},
		{16, 16, "43319d718f1012a30e2d66bd10273b79" + "18dc7a3a835a8ed303ccfaca84e660a6"},
	} {
		key, nonce, beside, plain := pattern(3, 32), pattern(4, 12), pattern(6, c.beside), pattern(5, c.plain)
		if got := sealed(t, chachaSuite, key, nonce, beside, plain); got != unhex(t, c.want) {
			t.Errorf("%d and %d bytes: %x", c.beside, c.plain, got)
		}
		opens(t, chachaSuite, key, nonce, beside, unhex(t, c.want), plain)
	}
}

// P7.2: what OpenSSL answers for all lengths around the units of the tag and
// the blocks of the key stream; only the digest of all these answers is kept.
func TestSealsOfAllLengths(t *testing.T) {
	all := sha256.New()
	for b := range 50 {
		for p := range 150 {
			key, nonce, beside, plain := pattern(b, 32), pattern(p, 12), pattern(2+b, b), pattern(1+p, p)
			text := sealed(t, chachaSuite, key, nonce, beside, plain)
			all.Write([]byte(text))
			opens(t, chachaSuite, key, nonce, beside, text, plain)
		}
	}
	if got := hex.EncodeToString(all.Sum(nil)); got != "541cd05883681d481fdcc8425f6a8d5b8ff13ef598e9a59a71402a520299d335" {
		t.Error("other answers: ", got)
	}
}

// P7.2: what OpenSSL answers where the lengths in the tag have more than one
// byte, up to the longest texts that may be.
func TestLongSeals(t *testing.T) {
	for _, c := range []struct {
		beside, plain int
		digest        string
	}{
		{255, 256, "f37bd4b25088f431373b81a186a0d40ce052f7c92a690b644d135a641e39abe2"},
		{256, 255, "790459dc9201f4cee5d898abab33956f550227fc2bbe3492db469436742f87c3"},
		{65535, 65536, "85a1d5b279ba785aed3bc002f724481564127b259cc3b0262b298b0ff06915d7"},
		{65536, 65535, "ca4fd5b127bc4d7a6af3889f37b85998d4c0d12491cebdad90a79a3986916817"},
		{most - 1, 0, "c27a2e0ae1b48100776c684f672beef46619658bc6a38fbecf8631aca485b3ce"},
		{0, most - 1, "6a6410c4089baa4cb2f1efbbc0f534dbd5efd79ad5517e4e0b6e4bd61c75e8e0"},
		{most, 0, "f1b20eb3e474ade3ef893fa17e04c597d2146605bdc9ec88a052b2489d98458e"},
		{0, most, "d5d7be35556fd6e147f760cfc602ec8bec2580560896f1bc26039d9b22e9616b"},
		{most, most, "25d41fe5bc538094a89846712c65861e97cda77a07f33b385ebe2d618aba6435"},
	} {
		key, nonce, beside, plain := pattern(3, 32), pattern(4, 12), pattern(6, c.beside), pattern(5, c.plain)
		text := sealed(t, chachaSuite, key, nonce, beside, plain)
		if got := sha256.Sum256([]byte(text)); hex.EncodeToString(got[:]) != c.digest {
			t.Errorf("%d and %d bytes: %x", c.beside, c.plain, got)
		}
		opens(t, chachaSuite, key, nonce, beside, text, plain)
		refuses(t, api.ErrTag, chachaSuite, key, nonce, beside, flipped(text, len(text)-1, 0x80))
	}
}

// P7.2: the document's words, at the edges of its units and blocks, with few
// bits and with many.
func TestSealByTheDocument(t *testing.T) {
	edges := []int{0, 1, 15, 16, 17, 31, 32, 33, 63, 64, 65, 128, 300}
	fills := []func(int) string{zeros, ones, func(n int) string { return sample(n, n) }}
	for i, beside := range edges {
		for j, plain := range edges {
			for k, fill := range fills {
				key, nonce := fills[(i+k)%3](32), fills[(j+k)%3](12)
				want := expectedSeal(t, key, nonce, fill(beside), fill(plain))
				if got := sealed(t, chachaSuite, key, nonce, fill(beside), fill(plain)); got != want {
					t.Errorf("%d and %d bytes: %x, not %x", beside, plain, got, want)
				}
				opens(t, chachaSuite, key, nonce, fill(beside), want, fill(plain))
			}
		}
	}
}

// P7.2: no other number is a suite, whatever else is wrong.
func TestOtherSuites(t *testing.T) {
	for _, suite := range others() {
		for _, k := range []int{0, 15, 16, 17, 31, 32, 33} {
			for _, n := range []int{0, 11, 12, 13} {
				for _, text := range []string{"", zeros(15), zeros(16), zeros(17), zeros(most + 1), zeros(most + 17)} {
					if got, e := seal.Seal(suite, zeros(k), zeros(n), text, text); got != "" || e != api.ErrArg {
						t.Errorf("Seal(%d, ..) = %d bytes, %v", suite, len(got), e)
					}
					refuses(t, api.ErrArg, suite, zeros(k), zeros(n), text, text)
				}
			}
		}
	}
}

// P7.2: suite 4865 is the layer below, for texts that may be.
func TestGCM(t *testing.T) {
	edges := []int{0, 1, 15, 16, 17, 32, 100}
	for i, b := range edges {
		for j, p := range edges {
			key, nonce, beside, plain := sample(i, 16), sample(j, 12), sample(10+i, b), sample(20+j, p)
			want, e := gcm.Seal(key, nonce, beside, plain)
			if got := sealed(t, gcmSuite, key, nonce, beside, plain); got != want || e != api.OK {
				t.Errorf("%d and %d bytes: %x, not %x", b, p, got, want)
			}
			opens(t, gcmSuite, key, nonce, beside, want, plain)
		}
	}
}

// P7.2: suite 4865 is the layer below also where it refuses something.
func TestGCMOfWrongArguments(t *testing.T) {
	for _, k := range []int{0, 15, 16, 17, 31, 32, 33} {
		for _, n := range []int{0, 11, 12, 13} {
			for _, a := range []int{0, 16, most + 1} {
				for _, p := range []int{0, 15, 16, 17, most + 1, most + 17} {
					key, nonce, beside, text := zeros(k), zeros(n), zeros(a), zeros(p)
					want, wantError := gcm.Seal(key, nonce, beside, text)
					if got, e := seal.Seal(gcmSuite, key, nonce, beside, text); got != want || e != wantError {
						t.Errorf("Seal of %d, %d, %d and %d bytes = %d bytes, %v", k, n, a, p, len(got), e)
					}
					_, wantError = gcm.Open(key, nonce, beside, text)
					refuses(t, wantError, gcmSuite, key, nonce, beside, text)
				}
			}
		}
	}
}

// P7.2: suite 4865 with the longest texts, which have their own length in the
// tag.
func TestGCMAtTheLimits(t *testing.T) {
	key, nonce, long := sample(1, 16), sample(2, 12), sample(3, most)
	for _, c := range []struct{ beside, plain string }{{long, ""}, {"", long}} {
		want, e := gcm.Seal(key, nonce, c.beside, c.plain)
		if got := sealed(t, gcmSuite, key, nonce, c.beside, c.plain); got != want || e != api.OK {
			t.Errorf("%d and %d bytes: another ciphertext or tag", len(c.beside), len(c.plain))
		}
		opens(t, gcmSuite, key, nonce, c.beside, want, c.plain)
	}
	refuses(t, api.ErrBig, gcmSuite, key, nonce, long+"x", "xxxxxxxxxxxxxxxx")
	refuses(t, api.ErrBig, gcmSuite, key, nonce, "", zeros(most+17))
}

// keyLengths and nonceLengths are right ones and others, among them some of
// which the right one would be left if only the low bits of a length counted.
func keyLengths() []int {
	return []int{32, 0, 1, 15, 16, 17, 24, 31, 33, 64, 256, 256 + 32, 65536 + 32}
}
func nonceLengths() []int {
	return []int{12, 0, 1, 8, 11, 13, 16, 24, 32, 256, 256 + 12, 65536 + 12}
}

// P7.2: what Seal refuses, and that a wrong key comes ahead of a text that is
// too long.
func TestSealOfWrongArguments(t *testing.T) {
	texts := []int{0, 1, 16, most + 1, most + 16, most + 17, 2 * most}
	for _, k := range keyLengths() {
		for _, n := range nonceLengths() {
			for _, a := range texts {
				for _, p := range texts {
					want := api.OK
					if k != 32 || n != 12 {
						want = api.ErrKey
					} else if a > most || p > most {
						want = api.ErrBig
					}
					got, e := seal.Seal(chachaSuite, zeros(k), zeros(n), zeros(a), zeros(p))
					if e != want || want != api.OK && got != "" || want == api.OK && len(got) != p+16 {
						t.Errorf("Seal of %d, %d, %d and %d bytes = %d bytes, %v, not %v", k, n, a, p, len(got), e, want)
					}
				}
			}
		}
	}
}

// openError is what Open answers for lengths, if a tag that may be right isn't.
func openError(key, nonce, beside, text int) api.Errno {
	switch {
	case key != 32 || nonce != 12:
		return api.ErrKey
	case text < 16:
		return api.ErrTag
	case beside > most || text > most+16:
		return api.ErrBig
	}
	return api.ErrTag
}

// P7.2: what Open refuses, in the order that the document tells the errors in.
func TestOpenOfWrongArguments(t *testing.T) {
	for _, k := range keyLengths() {
		for _, n := range nonceLengths() {
			for _, a := range []int{0, 16, most, most + 1, 2 * most} {
				for _, s := range []int{0, 1, 12, 15, 16, 17, 32, most + 16, most + 17, most + 32, 2 * most} {
					refuses(t, openError(k, n, a, s), chachaSuite, zeros(k), zeros(n), zeros(a), zeros(s))
				}
			}
		}
	}
}

// P7.2: the longest texts that may be, and those that are longer by one byte,
// whatever their tag.
func TestOpenAtTheLimits(t *testing.T) {
	key, nonce := sample(1, 32), sample(2, 12)
	for _, a := range []int{0, most - 1, most, most + 1} {
		for _, p := range []int{0, most - 1, most, most + 1} {
			beside, plain := sample(3, a), sample(4, p)
			text := expectedSeal(t, key, nonce, beside, plain)
			if a > most || p > most {
				refuses(t, api.ErrBig, chachaSuite, key, nonce, beside, text)
				refuses(t, api.ErrBig, chachaSuite, key, nonce, beside, flipped(text, p, 1))
				refuses(t, api.ErrKey, chachaSuite, key+"x", nonce, beside, text)
				refuses(t, api.ErrKey, chachaSuite, key, nonce[1:], beside, text)
				refuses(t, api.ErrTag, chachaSuite, key, nonce, beside, text[:15])
			} else {
				opens(t, chachaSuite, key, nonce, beside, text, plain)
			}
		}
	}
}

// P7.2: a text of 15 bytes is no tag, not even one that begins like the right
// one; of 16 bytes it is the tag of no ciphertext.
func TestOpenOfATagAlone(t *testing.T) {
	for _, suite := range []int{gcmSuite, chachaSuite} {
		key, nonce := keyFor(suite, 1), sample(2, 12)
		for _, beside := range []string{"", "x", sample(3, 16), sample(4, 17)} {
			tag := sealed(t, suite, key, nonce, beside, "")
			opens(t, suite, key, nonce, beside, tag, "")
			for n := range 16 {
				refuses(t, api.ErrTag, suite, key, nonce, beside, tag[:n])
				refuses(t, api.ErrTag, suite, key, nonce, beside, tag[n+1:])
			}
			for _, wrong := range []string{zeros(16), ones(16), tag[1:] + tag[:1], tag + "\x00", "\x00" + tag, tag + tag} {
				refuses(t, api.ErrTag, suite, key, nonce, beside, wrong)
			}
		}
	}
}

// P7.2, P7.3: each bit of the tag, of the ciphertext, of the associated data,
// of the key and of the nonce counts.
func TestChangedBits(t *testing.T) {
	for _, n := range []int{0, 1, 15, 16, 17, 65} {
		for _, suite := range []int{gcmSuite, chachaSuite} {
			key, nonce, beside, plain := keyFor(suite, n), sample(100+n, 12), sample(200+n, n), sample(300+n, n)
			text := sealed(t, suite, key, nonce, beside, plain)
			for bit := range 8 {
				mask := byte(1) << bit
				for i := range text {
					refuses(t, api.ErrTag, suite, key, nonce, beside, flipped(text, i, mask))
				}
				for i := range beside {
					refuses(t, api.ErrTag, suite, key, nonce, flipped(beside, i, mask), text)
				}
				for i := range key {
					refuses(t, api.ErrTag, suite, flipped(key, i, mask), nonce, beside, text)
				}
				for i := range nonce {
					refuses(t, api.ErrTag, suite, key, flipped(nonce, i, mask), beside, text)
				}
			}
			opens(t, suite, key, nonce, beside, text, plain)
		}
	}
}

// P7.3: each of the sixteen bytes of a tag, changed to any other, and several of
// them together whose changes sum up to nothing.
func TestChangedTags(t *testing.T) {
	for _, suite := range []int{gcmSuite, chachaSuite} {
		key, nonce, beside, plain := keyFor(suite, 1), sample(2, 12), sample(3, 20), sample(4, 20)
		text := sealed(t, suite, key, nonce, beside, plain)
		for i := 20; i < 36; i++ {
			for mask := 1; mask < 256; mask++ {
				refuses(t, api.ErrTag, suite, key, nonce, beside, flipped(text, i, byte(mask)))
			}
			for j := 20; j < i; j++ {
				refuses(t, api.ErrTag, suite, key, nonce, beside, flipped(flipped(text, i, 0x55), j, 0x55))
			}
		}
		opens(t, suite, key, nonce, beside, text, plain)
	}
}

// P7.2: bytes that are added, left out, or moved from one text to the other,
// although the zeros between them look the same.
func TestMovedBytes(t *testing.T) {
	key, nonce := sample(1, 32), sample(2, 12)
	refused := func(beside, text string) {
		t.Helper()
		refuses(t, api.ErrTag, chachaSuite, key, nonce, beside, text)
	}
	for _, c := range []struct{ beside, plain string }{
		{"", ""}, {"", zeros(16)}, {zeros(16), ""}, {zeros(3), zeros(5)}, {sample(3, 32), sample(4, 32)}, {sample(5, 7), sample(6, 9)},
	} {
		text := sealed(t, chachaSuite, key, nonce, c.beside, c.plain)
		tag, hidden := text[len(c.plain):], text[:len(c.plain)]
		for _, n := range []int{1, 15, 16, 32} {
			refused(c.beside+zeros(n), text)
			refused(zeros(n)+c.beside, text)
			refused(c.beside, hidden+zeros(n)+tag)
			refused(c.beside, zeros(n)+text)
			refused(c.beside, text+zeros(n))
			if len(c.beside) >= n {
				refused(c.beside[n:], text)
				refused(c.beside[:len(c.beside)-n], text)
				refused(c.beside[:len(c.beside)-n], c.beside[len(c.beside)-n:]+text)
			}
			if len(hidden) >= n {
				refused(c.beside, text[n:])
				refused(c.beside, text[:len(text)-n])
				refused(c.beside+hidden[:n], text[n:])
			}
		}
		if c.beside != c.plain {
			refused(hidden, c.beside+tag)
		}
	}
}

// P7.2: a sealed text that was not made by Seal: its tag alone decides.
func TestOpenOfAnyCiphertext(t *testing.T) {
	for n := range 70 {
		key, nonce, beside, hidden := sample(n, 32), sample(100+n, 12), sample(200+n, 70-n), sample(300+n, n)
		plain := xor(hidden, expectedSeal(t, key, nonce, "", zeros(n)))
		text := expectedSeal(t, key, nonce, beside, plain)
		if text[:n] != hidden {
			t.Fatalf("%d bytes: another ciphertext", n)
		}
		opens(t, chachaSuite, key, nonce, beside, text, plain)
	}
}

// P7.3: Open of the result of Seal, under both suites, of any lengths, with the
// nonces of numbers.
func TestThereAndBack(t *testing.T) {
	r := rand.New(rand.NewSource(1))
	for i := range 400 {
		for _, suite := range []int{gcmSuite, chachaSuite} {
			nonce := nonceOf(t, sample(4*i+1, 12), i)
			key, beside, plain := keyFor(suite, 4*i), sample(4*i+2, r.Intn(300)), sample(4*i+3, r.Intn(600))
			text := sealed(t, suite, key, nonce, beside, plain)
			opens(t, suite, key, nonce, beside, text, plain)
			at := len(plain) + r.Intn(16)
			refuses(t, api.ErrTag, suite, key, nonce, beside, flipped(text, at, byte(1+r.Intn(255))))
		}
	}
}

// overlap tells whether two strings share memory.
func overlap(a, b string) bool {
	x, y := uintptr(unsafe.Pointer(unsafe.StringData(a))), uintptr(unsafe.Pointer(unsafe.StringData(b)))
	return x < y+uintptr(len(b)) && y < x+uintptr(len(a))
}

// R2: an answer is memory of its own, also where it is the same as an argument.
func TestAnswersAreNew(t *testing.T) {
	for _, suite := range []int{gcmSuite, chachaSuite} {
		key, iv, beside, plain := keyFor(suite, 1), sample(2, 12), sample(3, 16), sample(4, 40)
		nonce := nonceOf(t, iv, 0)
		text := sealed(t, suite, key, nonce, beside, plain)
		back, _ := seal.Open(suite, key, nonce, beside, text)
		for _, in := range []string{key, iv, beside, plain} {
			for i, got := range []string{nonce, text, back} {
				if overlap(in, got) {
					t.Errorf("suite %d: answer %d is in the memory of an argument", suite, i)
				}
			}
		}
		if overlap(nonce, text) || overlap(nonce, back) || overlap(text, back) {
			t.Errorf("suite %d: two answers share memory", suite)
		}
		if key != keyFor(suite, 1) || iv != sample(2, 12) || beside != sample(3, 16) || plain != sample(4, 40) {
			t.Errorf("suite %d: an argument has changed", suite)
		}
	}
}

// R3: a call leaves nothing behind that another one would see.
func TestCallsAreApart(t *testing.T) {
	for _, suite := range []int{gcmSuite, chachaSuite} {
		key, iv, beside, plain := keyFor(suite, 1), sample(2, 12), sample(3, 30), sample(4, 150)
		nonce := nonceOf(t, iv, 7)
		first := sealed(t, suite, key, nonce, beside, plain)
		sealed(t, suite, keyFor(suite, 6), nonce, beside, plain)
		sealed(t, suite, key, sample(7, 12), sample(8, 10), sample(9, 100))
		sealed(t, gcmSuite+chachaSuite-suite, keyFor(gcmSuite+chachaSuite-suite, 1), nonce, beside, plain)
		seal.Seal(suite, "x", nonce, beside, plain)
		seal.Seal(0, key, nonce, beside, plain)
		seal.Open(suite, key, nonce, beside, flipped(first, 0, 1))
		seal.Open(suite, key, nonce, beside, "x")
		seal.Nonce(iv, -1)
		if again := nonceOf(t, iv, 7); again != nonce {
			t.Errorf("%x, then %x", nonce, again)
		}
		if again := sealed(t, suite, key, nonce, beside, plain); again != first {
			t.Errorf("%x, then %x", first, again)
		}
		opens(t, suite, key, nonce, beside, first, plain)
		opens(t, suite, key, nonce, beside, first, plain)
	}
}

// R3: calls at the same time do not see each other.
func TestCallsAtTheSameTime(t *testing.T) {
	var all sync.WaitGroup
	for i := range 8 {
		key, nonce, beside, plain := sample(i, 32), sample(i+10, 12), sample(i+20, 40), sample(i+30, 190)
		want := expectedSeal(t, key, nonce, beside, plain)
		all.Go(func() {
			for range 50 {
				if got, e := seal.Seal(chachaSuite, key, nonce, beside, plain); got != want || e != api.OK {
					t.Errorf("seal %d: %x, %v", i, got, e)
				}
				if got, e := seal.Open(chachaSuite, key, nonce, beside, want); got != plain || e != api.OK {
					t.Errorf("open %d: %x, %v", i, got, e)
				}
			}
		})
	}
	all.Wait()
}

func BenchmarkSealGCM(b *testing.B)    { benchmarkSeal(b, gcmSuite) }
func BenchmarkSealChaCha(b *testing.B) { benchmarkSeal(b, chachaSuite) }

// benchmarkSeal seals the longest plaintext of a record.
func benchmarkSeal(b *testing.B, suite int) {
	key, nonce, plain := keyFor(suite, 1), sample(2, 12), sample(3, api.MaxPlain)
	b.SetBytes(int64(len(plain)))
	for b.Loop() {
		seal.Seal(suite, key, nonce, "", plain)
	}
}
