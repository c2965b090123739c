package gcm_test

import (
	stdaes "crypto/aes"
	"crypto/cipher"
	"encoding/binary"
	"encoding/hex"
	"math/rand"
	"strings"
	"sync"
	"testing"
	"unsafe"

	"cresset/aes"
	"cresset/api"
	"cresset/gcm"
)

const most = 1048576 // bytes of the associated data, and of the plaintext

// sample is n bytes of all values, without a short period; no two seeds have
// the same.
func sample(seed, n int) string {
	b := make([]byte, n)
	rand.New(rand.NewSource(int64(seed))).Read(b)
	return string(b)
}

func unhex(t *testing.T, s string) string {
	t.Helper()
	b, err := hex.DecodeString(s)
	if err != nil {
		t.Fatal(err)
	}
	return string(b)
}

// nothing is as many zero bytes as a test asks for, made once for all of them.
var nothing = strings.Repeat("\x00", 3*most)

// zeros and ones are n bytes of no bits and of all bits.
func zeros(n int) string { return nothing[:n] }
func ones(n int) string  { return strings.Repeat("\xff", n) }

// power is the block whose polynomial is x^n, for n below 128: the highest bit
// of the first byte is the power 0.
func power(n int) string {
	b := make([]byte, 16)
	b[n/8] = 0x80 >> (n % 8)
	return string(b)
}

// flipped is text with the bits of mask changed in the byte at i.
func flipped(text string, i int, mask byte) string {
	b := []byte(text)
	b[i] ^= mask
	return string(b)
}

// xor is a xor b, byte by byte; b may be longer.
func xor(a, b string) string {
	out := []byte(a)
	for i := range out {
		out[i] ^= b[i]
	}
	return string(out)
}

// product is that of two blocks' polynomials: the whole product first, and then
// its remainder by the division that one learns at school.
func product(a, b string) string {
	var whole [255]byte
	for i := range 128 {
		for j := range 128 {
			whole[i+j] ^= (a[i/8] >> (7 - i%8)) & (b[j/8] >> (7 - j%8)) & 1
		}
	}
	for i := 254; i >= 128; i-- {
		if whole[i] == 1 {
			for _, j := range []int{128, 7, 2, 1, 0} {
				whole[i-128+j] ^= 1
			}
		}
	}
	out := make([]byte, 16)
	for i := range 128 {
		out[i/8] |= whole[i] << (7 - i%8)
	}
	return string(out)
}

// expectedHash is the document's words, worked out apart from the program.
func expectedHash(key, blocks string) string {
	y := zeros(16)
	for at := 0; at < len(blocks); at += 16 {
		y = product(xor(y, blocks[at:at+16]), key)
	}
	return y
}

// whole is text and zero bytes up to a whole number of blocks.
func whole(text string) string {
	for len(text)%16 != 0 {
		text += "\x00"
	}
	return text
}

// number is n as eight bytes, big-endian.
func number(n int) string {
	return string(binary.BigEndian.AppendUint64(nil, uint64(n)))
}

// counter is the counter block of n.
func counter(nonce string, n int) string { return nonce + number(n)[4:] }

// block is a block encrypted by the layer below.
func block(t *testing.T, key, in string) string {
	t.Helper()
	out, e := aes.Block(key, in)
	if e != api.OK {
		t.Fatalf("aes.Block of %d and %d bytes: %v", len(key), len(in), e)
	}
	return out
}

// expectedSeal is the document's words, worked out apart from the program.
func expectedSeal(t *testing.T, key, nonce, beside, plain string) string {
	t.Helper()
	stream := ""
	for i := 2; len(stream) < len(plain); i++ {
		stream += block(t, key, counter(nonce, i))
	}
	hidden := xor(plain, stream)
	lengths := number(8*len(beside)) + number(8*len(hidden))
	h := expectedHash(block(t, key, zeros(16)), whole(beside)+whole(hidden)+lengths)
	return hidden + xor(h, block(t, key, counter(nonce, 1)))
}

// another is what the Go library answers.
func another(t *testing.T, key, nonce, beside, plain string) string {
	t.Helper()
	c, err := stdaes.NewCipher([]byte(key))
	if err != nil {
		t.Fatal(err)
	}
	g, err := cipher.NewGCM(c)
	if err != nil {
		t.Fatal(err)
	}
	return string(g.Seal(nil, []byte(nonce), []byte(plain), []byte(beside)))
}

func hash(t *testing.T, key, blocks string) string {
	t.Helper()
	got, e := gcm.Hash(key, blocks)
	if e != api.OK || len(got) != 16 {
		t.Fatalf("Hash(%x, %d bytes) = %d bytes, %v", key, len(blocks), len(got), e)
	}
	return got
}

func seal(t *testing.T, key, nonce, beside, plain string) string {
	t.Helper()
	got, e := gcm.Seal(key, nonce, beside, plain)
	if e != api.OK || len(got) != len(plain)+16 {
		t.Fatalf("Seal(%x, %x, %d bytes, %d bytes) = %d bytes, %v", key, nonce, len(beside), len(plain), len(got), e)
	}
	return got
}

// opens checks that sealed is plain again.
func opens(t *testing.T, key, nonce, beside, sealed, plain string) {
	t.Helper()
	if got, e := gcm.Open(key, nonce, beside, sealed); got != plain || e != api.OK {
		t.Errorf("Open(%x, %x, %d bytes, %d bytes) = %d bytes, %v", key, nonce, len(beside), len(sealed), len(got), e)
	}
}

// refuses checks that Open answers the error alone.
func refuses(t *testing.T, want api.Errno, key, nonce, beside, sealed string) {
	t.Helper()
	if got, e := gcm.Open(key, nonce, beside, sealed); got != "" || e != want {
		t.Errorf("Open(%d, %d, %d, %d bytes) = %d bytes, %v, not %v", len(key), len(nonce), len(beside), len(sealed), len(got), e, want)
	}
}

// wrongLengths are those of keys and nonces which n is not, among them some of
// which n would be left if only the low bits of a length counted.
func wrongLengths(n int) []int {
	return []int{0, 1, n / 2, n - 1, n + 1, 2 * n, 24, 32, 256, 256 + n, 65536 + n}
}

// P6.1: digests of the published test cases of GCM, on the way to their tags.
func TestPublishedDigests(t *testing.T) {
	h := "b83b533708bf535d0aa6e52980d53b78"
	hidden := "42831ec2217774244b7221b784d0d49ce3aa212f2c02a4e035c17e2329aca12e" +
		"21d514b25466931c7d8f6a5aac84aa051ba30b396a0aac973d58e091"
	for i, c := range []struct{ key, blocks, want string }{
		{"66e94bd4ef8a2c3b884cfa59ca342b2e", "00000000000000000000000000000000", "00000000000000000000000000000000"},
		{"66e94bd4ef8a2c3b884cfa59ca342b2e", "0388dace60b6a392f328c2b971b2fe7800000000000000000000000000000080", "f38cbb1ad69223dcc3457ae5b6b0f885"},
		{h, hidden + "473f598500000000000000000000000000000200", "7f1b32b81b820d02614f8895ac1d4eac"},
		{h, "feedfacedeadbeeffeedfacedeadbeefabaddad2000000000000000000000000" + hidden + "00000000" + "00000000000000a000000000000001e0", "698e57f70e6ecc7fd9463b7260a9ae5f"},
	} {
		if got := hash(t, unhex(t, c.key), unhex(t, c.blocks)); got != unhex(t, c.want) {
			t.Errorf("case %d: %x", i, got)
		}
	}
}

// P6.1: the products of all pairs of powers, each of them what the powers
// between make of it.
func TestProductsOfPowers(t *testing.T) {
	var powers []string
	for n := range 255 {
		if n < 128 {
			powers = append(powers, power(n))
		} else {
			low := n - 128
			sum := xor(xor(powers[low], powers[low+1]), xor(powers[low+2], powers[low+7]))
			powers = append(powers, sum)
		}
	}
	for a := range 128 {
		for b := range 128 {
			if got := hash(t, power(a), power(b)); got != powers[a+b] {
				t.Fatalf("x^%d times x^%d = %x, not %x", a, b, got, powers[a+b])
			}
		}
	}
}

// P6.1: 1 leaves a block as it is, be it the key or the block, and 0 leaves
// nothing of it.
func TestProductsWithOneAndZero(t *testing.T) {
	for seed := range 50 {
		b := sample(seed, 16)
		if got := hash(t, power(0), b); got != b {
			t.Errorf("1 times %x = %x", b, got)
		}
		if got := hash(t, b, power(0)); got != b {
			t.Errorf("%x times 1 = %x", b, got)
		}
		if got := hash(t, zeros(16), b) + hash(t, b, zeros(16)); got != zeros(32) {
			t.Errorf("0 times %x = %x", b, got)
		}
	}
}

// P6.1: one block and another key, by the document's words; keys and blocks of
// few bits and of many.
func TestProducts(t *testing.T) {
	some := []string{zeros(16), ones(16), zeros(8) + ones(8), ones(8) + zeros(8), zeros(15) + "\x01", zeros(15) + "\xff"}
	for seed := range 60 {
		some = append(some, sample(seed, 16))
	}
	for _, key := range some {
		for _, b := range some {
			if got := hash(t, key, b); got != product(key, b) {
				t.Errorf("%x times %x = %x", b, key, got)
			}
		}
	}
}

// P6.1: no block, one, and many, in their order.
func TestHash(t *testing.T) {
	for n := range 33 {
		for _, key := range []string{sample(n, 16), ones(16), power(127)} {
			for _, blocks := range []string{sample(100+n, 16*n), zeros(16 * n), ones(16 * n)} {
				if got := hash(t, key, blocks); got != expectedHash(key, blocks) {
					t.Errorf("Hash(%x, %x) = %x", key, blocks, got)
				}
			}
		}
	}
	if got := hash(t, sample(1, 16), ""); got != zeros(16) {
		t.Errorf("no block: %x", got)
	}
}

// P6.1: the order of the blocks counts, and so does a block of zeros behind
// others.
func TestHashOfOtherBlocks(t *testing.T) {
	key, a, b := sample(1, 16), sample(2, 16), sample(3, 16)
	digests := map[string]string{}
	for _, blocks := range []string{a, b, a + b, b + a, a + zeros(16), a + b + zeros(16), a + a + b} {
		got := hash(t, key, blocks)
		if got != expectedHash(key, blocks) {
			t.Errorf("Hash(%x) = %x", blocks, got)
		}
		if other, ok := digests[got]; ok {
			t.Errorf("%x and %x have the same digest", other, blocks)
		}
		digests[got] = blocks
	}
	if hash(t, key, zeros(16)+a) != hash(t, key, a) {
		t.Error("a block of zeros ahead of the others has changed the digest")
	}
}

// P6.1: blocks without a limit. With the key 1 the digest is the sum of them.
func TestHashOfManyBlocks(t *testing.T) {
	for _, n := range []int{most, most + 16, most + 32, 3 * most} {
		sum, blocks := zeros(16), sample(n, n)
		for at := 0; at < n; at += 16 {
			sum = xor(sum, blocks[at:at+16])
		}
		if got := hash(t, power(0), blocks); got != sum {
			t.Errorf("%d bytes: %x, not %x", n, got, sum)
		}
	}
}

// P6.1: what Hash refuses, and that a wrong key comes ahead of blocks that are
// not whole.
func TestHashOfWrongArguments(t *testing.T) {
	keys := append([]int{16}, wrongLengths(16)...)
	for _, k := range keys {
		for _, n := range []int{0, 1, 8, 12, 15, 16, 17, 24, 31, 32, 33, 48, 256, 256 + 15, 65536, 65536 + 1, most + 1, most + 16} {
			want := api.OK
			if k != 16 {
				want = api.ErrKey
			} else if n%16 != 0 {
				want = api.ErrArg
			}
			got, e := gcm.Hash(sample(k, k), zeros(n))
			if e != want || len(got) != 0 && want != api.OK || want == api.OK && got != zeros(16) {
				t.Errorf("Hash of %d and %d bytes = %x, %v, not %v", k, n, got, e, want)
			}
		}
	}
}

// published are the test cases of GCM with a key of 16 bytes and a nonce of 12.
func published() []struct{ key, nonce, beside, plain, want string } {
	empty := "00000000000000000000000000000000"
	key, nonce := "feffe9928665731c6d6a8f9467308308", "cafebabefacedbaddecaf888"
	plain := "d9313225f88406e5a55909c5aff5269a86a7a9531534f7da2e4c303d8a318a72" +
		"1c3c0c95956809532fcf0e2449a6b525b16aedf5aa0de657ba637b39"
	hidden := "42831ec2217774244b7221b784d0d49ce3aa212f2c02a4e035c17e2329aca12e" +
		"21d514b25466931c7d8f6a5aac84aa051ba30b396a0aac973d58e091"
	return []struct{ key, nonce, beside, plain, want string }{
		{empty, empty[:24], "", "", "58e2fccefa7e3061367f1d57a4e7455a"},
		{empty, empty[:24], "", empty, "0388dace60b6a392f328c2b971b2fe78" + "ab6e47d42cec13bdf53a67b21257bddf"},
		{key, nonce, "", plain + "1aafd255", hidden + "473f5985" + "4d5c2af327cd64a62cf35abd2ba6fab4"},
		{key, nonce, "feedfacedeadbeeffeedfacedeadbeefabaddad2", plain, hidden + "5bc94fbc3221a5db94fae95ae7121a47"},
	}
}

// P6.2, P6.3: the published test cases, there and back.
func TestPublishedSeals(t *testing.T) {
	for i, c := range published() {
		key, nonce, beside, plain := unhex(t, c.key), unhex(t, c.nonce), unhex(t, c.beside), unhex(t, c.plain)
		sealed := seal(t, key, nonce, beside, plain)
		if sealed != unhex(t, c.want) {
			t.Errorf("case %d: %x", i, sealed)
		}
		opens(t, key, nonce, beside, unhex(t, c.want), plain)
	}
}

// P6.2, P6.3: the document's examples.
func TestExamples(t *testing.T) {
	if got := seal(t, zeros(16), zeros(12), "", zeros(16)); got[:4] != "\x03\x88\xda\xce" {
		t.Errorf("%x", got)
	}
	for _, beside := range []string{"", "ad", sample(1, 100)} {
		refuses(t, api.ErrTag, sample(2, 16), sample(3, 12), beside, "x")
	}
}

// P6.2, P6.3: all lengths around whole blocks, by the document's words and as
// the Go library answers them.
func TestSeal(t *testing.T) {
	lengths := []int{0, 1, 2, 7, 8, 12, 13, 14, 15, 16, 17, 18, 31, 32, 33, 47, 48, 49, 63, 64, 65, 100}
	for i, a := range lengths {
		for j, n := range lengths {
			seed := 100*i + j
			key, nonce, beside, plain := sample(seed, 16), sample(seed+5000, 12), sample(seed+10000, a), sample(seed+15000, n)
			got := seal(t, key, nonce, beside, plain)
			if got != expectedSeal(t, key, nonce, beside, plain) || got != another(t, key, nonce, beside, plain) {
				t.Errorf("%d and %d bytes: %x", a, n, got)
			}
			opens(t, key, nonce, beside, got, plain)
		}
	}
}

// P6.2: texts of no bits and of all bits, and keys and nonces of them.
func TestSealOfPlainBytes(t *testing.T) {
	for _, key := range []string{zeros(16), ones(16), power(0), power(127)} {
		for _, nonce := range []string{zeros(12), ones(12), zeros(11) + "\x01", "\x80" + zeros(11)} {
			for _, n := range []int{0, 1, 15, 16, 17, 40} {
				for _, text := range []string{zeros(n), ones(n)} {
					got := seal(t, key, nonce, text, text)
					if got != expectedSeal(t, key, nonce, text, text) {
						t.Errorf("key %x, nonce %x, %d bytes: %x", key, nonce, n, got)
					}
					opens(t, key, nonce, text, got, text)
				}
			}
		}
	}
}

// P6.2: the key stream is the counter blocks of 2, 3 and so on, also where the
// number needs one more byte.
func TestKeyStream(t *testing.T) {
	key, nonce := sample(1, 16), sample(2, 12)
	got := seal(t, key, nonce, "", zeros(16*65400))
	for _, i := range []int{2, 3, 4, 127, 128, 254, 255, 256, 257, 511, 512, 513, 32767, 32768, 65279, 65280, 65401} {
		at := 16 * (i - 2)
		if want := block(t, key, counter(nonce, i)); got[at:at+16] != want {
			t.Errorf("block %d: %x, not %x", i, got[at:at+16], want)
		}
	}
}

// P6.2: a part of a block takes the first bytes of its key stream, and a longer
// text begins with the ciphertext of a shorter one.
func TestCiphertextsOfParts(t *testing.T) {
	key, nonce, plain := sample(1, 16), sample(2, 12), sample(3, 70)
	long := seal(t, key, nonce, "", plain)
	for n := range len(plain) {
		if got := seal(t, key, nonce, sample(n, 20), plain[:n]); got[:n] != long[:n] {
			t.Errorf("%d bytes: %x, not %x", n, got[:n], long[:n])
		}
	}
}

// P6.2, P6.3, P6.4: the longest texts, there and back, and lengths whose bits
// need one more byte.
func TestLongTexts(t *testing.T) {
	for _, c := range []struct{ beside, plain int }{
		{31, 32}, {32, 31}, {8191, 8192}, {8192, 8191}, {0, most - 1}, {most - 1, 1}, {1, most}, {most, 0}, {0, most}, {most, most},
	} {
		key, nonce, beside, plain := sample(c.beside, 16), sample(c.plain, 12), sample(1, c.beside), sample(2, c.plain)
		got := seal(t, key, nonce, beside, plain)
		if got != another(t, key, nonce, beside, plain) {
			t.Errorf("%d and %d bytes: another ciphertext or tag", c.beside, c.plain)
		}
		opens(t, key, nonce, beside, got, plain)
		refuses(t, api.ErrTag, key, nonce, beside, flipped(got, len(got)-1, 1))
	}
}

// P6.2: what Seal refuses, and that a wrong key comes ahead of a text that is
// too long.
func TestSealOfWrongArguments(t *testing.T) {
	texts := []int{0, 1, 16, most + 1, most + 16, most + 17, 2 * most}
	for _, k := range append([]int{16}, wrongLengths(16)...) {
		for _, n := range append([]int{12}, wrongLengths(12)...) {
			for _, a := range texts {
				for _, p := range texts {
					want := api.OK
					if k != 16 || n != 12 {
						want = api.ErrKey
					} else if a > most || p > most {
						want = api.ErrBig
					}
					got, e := gcm.Seal(zeros(k), zeros(n), zeros(a), zeros(p))
					if e != want || want != api.OK && got != "" || want == api.OK && len(got) != p+16 {
						t.Errorf("Seal of %d, %d, %d and %d bytes = %d bytes, %v, not %v", k, n, a, p, len(got), e, want)
					}
				}
			}
		}
	}
}

// openError is what Open answers for lengths, if a tag that may be right isn't.
func openError(key, nonce, beside, sealed int) api.Errno {
	switch {
	case key != 16 || nonce != 12:
		return api.ErrKey
	case sealed < 16:
		return api.ErrTag
	case beside > most || sealed > most+16:
		return api.ErrBig
	}
	return api.ErrTag
}

// P6.3: what Open refuses, in the order that the document tells the errors in.
func TestOpenOfWrongArguments(t *testing.T) {
	for _, k := range append([]int{16}, wrongLengths(16)...) {
		for _, n := range append([]int{12}, wrongLengths(12)...) {
			for _, a := range []int{0, 16, most + 1, 2 * most} {
				for _, s := range []int{0, 1, 12, 15, 16, 17, 32, most + 17, most + 32, 2 * most} {
					refuses(t, openError(k, n, a, s), zeros(k), zeros(n), zeros(a), zeros(s))
				}
			}
		}
	}
}

// P6.3: the longest texts that may be, and those that are longer by one byte,
// whatever their tag.
func TestOpenAtTheLimits(t *testing.T) {
	key, nonce := sample(1, 16), sample(2, 12)
	for _, a := range []int{most - 1, most, most + 1} {
		for _, p := range []int{0, most - 1, most, most + 1} {
			beside, plain := sample(3, a), sample(4, p)
			sealed := another(t, key, nonce, beside, plain)
			if a > most || p > most {
				refuses(t, api.ErrBig, key, nonce, beside, sealed)
				refuses(t, api.ErrBig, key, nonce, beside, flipped(sealed, p, 1))
				refuses(t, api.ErrKey, key+"x", nonce, beside, sealed)
				refuses(t, api.ErrKey, key, nonce[1:], beside, sealed)
				refuses(t, api.ErrTag, key, nonce, beside, sealed[:15])
			} else {
				opens(t, key, nonce, beside, sealed, plain)
			}
		}
	}
}

// P6.3: a text of 15 bytes is no tag, not even one that begins like the right
// one; of 16 bytes it is the tag of no ciphertext.
func TestOpenOfATagAlone(t *testing.T) {
	key, nonce := sample(1, 16), sample(2, 12)
	for _, beside := range []string{"", "x", sample(3, 16), sample(4, 17)} {
		tag := seal(t, key, nonce, beside, "")
		opens(t, key, nonce, beside, tag, "")
		for n := range 16 {
			refuses(t, api.ErrTag, key, nonce, beside, tag[:n])
			refuses(t, api.ErrTag, key, nonce, beside, tag[n+1:])
		}
		for _, wrong := range []string{zeros(16), ones(16), tag[1:] + tag[:1], tag + "\x00", "\x00" + tag, tag + tag} {
			refuses(t, api.ErrTag, key, nonce, beside, wrong)
		}
	}
}

// P6.3, P6.4: each bit of the tag, of the ciphertext, of the associated data,
// of the key and of the nonce counts.
func TestChangedBits(t *testing.T) {
	for _, n := range []int{0, 1, 15, 16, 17, 33} {
		key, nonce, beside, plain := sample(n, 16), sample(100+n, 12), sample(200+n, n), sample(300+n, n)
		sealed := seal(t, key, nonce, beside, plain)
		for bit := range 8 {
			mask := byte(1) << bit
			for i := range sealed {
				refuses(t, api.ErrTag, key, nonce, beside, flipped(sealed, i, mask))
			}
			for i := range beside {
				refuses(t, api.ErrTag, key, nonce, flipped(beside, i, mask), sealed)
			}
			for i := range key {
				refuses(t, api.ErrTag, flipped(key, i, mask), nonce, beside, sealed)
			}
			for i := range nonce {
				refuses(t, api.ErrTag, key, flipped(nonce, i, mask), beside, sealed)
			}
		}
		opens(t, key, nonce, beside, sealed, plain)
	}
}

// P6.4: each of the sixteen bytes of a tag, changed to any other, and several of
// them together whose changes sum up to nothing.
func TestChangedTags(t *testing.T) {
	key, nonce, beside, plain := sample(1, 16), sample(2, 12), sample(3, 20), sample(4, 20)
	sealed := seal(t, key, nonce, beside, plain)
	for i := 20; i < 36; i++ {
		for mask := 1; mask < 256; mask++ {
			refuses(t, api.ErrTag, key, nonce, beside, flipped(sealed, i, byte(mask)))
		}
		for j := 20; j < i; j++ {
			refuses(t, api.ErrTag, key, nonce, beside, flipped(flipped(sealed, i, 0x55), j, 0x55))
		}
	}
	opens(t, key, nonce, beside, sealed, plain)
}

// P6.3: bytes that are added, left out, or moved from one text to the other,
// although the zeros between them look the same.
func TestMovedBytes(t *testing.T) {
	key, nonce := sample(1, 16), sample(2, 12)
	for _, c := range []struct{ beside, plain string }{
		{"", ""}, {"", zeros(16)}, {zeros(16), ""}, {zeros(3), zeros(5)}, {sample(3, 32), sample(4, 32)}, {sample(5, 7), sample(6, 9)},
	} {
		sealed := seal(t, key, nonce, c.beside, c.plain)
		tag, hidden := sealed[len(c.plain):], sealed[:len(c.plain)]
		for _, n := range []int{1, 15, 16, 32} {
			refuses(t, api.ErrTag, key, nonce, c.beside+zeros(n), sealed)
			refuses(t, api.ErrTag, key, nonce, zeros(n)+c.beside, sealed)
			refuses(t, api.ErrTag, key, nonce, c.beside, hidden+zeros(n)+tag)
			refuses(t, api.ErrTag, key, nonce, c.beside, zeros(n)+sealed)
			refuses(t, api.ErrTag, key, nonce, c.beside, sealed+zeros(n))
			if len(c.beside) >= n {
				refuses(t, api.ErrTag, key, nonce, c.beside[n:], sealed)
				refuses(t, api.ErrTag, key, nonce, c.beside[:len(c.beside)-n], sealed)
				refuses(t, api.ErrTag, key, nonce, c.beside[n:], c.beside[:n]+sealed)
			}
			if len(hidden) >= n {
				refuses(t, api.ErrTag, key, nonce, c.beside, sealed[n:])
				refuses(t, api.ErrTag, key, nonce, c.beside, sealed[:len(sealed)-n])
				refuses(t, api.ErrTag, key, nonce, c.beside+hidden[:n], sealed[n:])
			}
		}
		if c.beside != c.plain {
			refuses(t, api.ErrTag, key, nonce, hidden, c.beside+tag)
		}
	}
}

// P6.3: a sealed text that was not made by Seal: its tag alone decides.
func TestOpenOfAnyCiphertext(t *testing.T) {
	for n := range 70 {
		key, nonce, beside, hidden := sample(n, 16), sample(100+n, 12), sample(200+n, 70-n), sample(300+n, n)
		plain := xor(hidden, expectedSeal(t, key, nonce, "", zeros(n)))
		sealed := another(t, key, nonce, beside, plain)
		if sealed[:n] != hidden {
			t.Fatalf("%d bytes: another ciphertext", n)
		}
		opens(t, key, nonce, beside, sealed, plain)
	}
}

// P6.4: Open of the result of Seal, and Seal of the result of Open, of any
// lengths.
func TestThereAndBack(t *testing.T) {
	r := rand.New(rand.NewSource(1))
	for i := range 400 {
		key, nonce, beside, plain := sample(4*i, 16), sample(4*i+1, 12), sample(4*i+2, r.Intn(300)), sample(4*i+3, r.Intn(600))
		sealed := seal(t, key, nonce, beside, plain)
		opens(t, key, nonce, beside, sealed, plain)
		at := len(plain) + r.Intn(16)
		refuses(t, api.ErrTag, key, nonce, beside, flipped(sealed, at, byte(1+r.Intn(255))))
	}
}

// R2: an answer is memory of its own, also where it is as long as an argument.
func TestAnswersAreNew(t *testing.T) {
	key, nonce, beside, plain := sample(1, 16), sample(2, 12), sample(3, 16), sample(4, 40)
	sealed := seal(t, key, nonce, beside, plain)
	back, _ := gcm.Open(key, nonce, beside, sealed)
	b := sample(5, 16)
	for i, got := range []string{sealed, back, hash(t, power(0), b)} {
		at := uintptr(unsafe.Pointer(unsafe.StringData(got)))
		for j, in := range []string{key, nonce, beside, plain, sealed, b} {
			from := uintptr(unsafe.Pointer(unsafe.StringData(in)))
			if (i > 0 || j != 4) && at < from+uintptr(len(in)) && from < at+uintptr(len(got)) {
				t.Errorf("answer %d is in the memory of argument %d", i, j)
			}
		}
	}
}

// R3: a call leaves nothing behind that another one would see.
func TestCallsAreApart(t *testing.T) {
	key, nonce, beside, plain := sample(1, 16), sample(2, 12), sample(3, 30), sample(4, 50)
	first, digest := seal(t, key, nonce, beside, plain), hash(t, key, sample(5, 48))
	seal(t, sample(6, 16), nonce, beside, plain)
	seal(t, key, sample(7, 12), sample(8, 10), sample(9, 100))
	gcm.Seal("x", nonce, beside, plain)
	gcm.Open(key, nonce, beside, flipped(first, 0, 1))
	gcm.Open(key, nonce, beside, "x")
	gcm.Hash(key, "x")
	hash(t, sample(10, 16), sample(11, 32))
	if again := seal(t, key, nonce, beside, plain); again != first {
		t.Errorf("%x, then %x", first, again)
	}
	if again := hash(t, key, sample(5, 48)); again != digest {
		t.Errorf("%x, then %x", digest, again)
	}
	opens(t, key, nonce, beside, first, plain)
	opens(t, key, nonce, beside, first, plain)
}

// R3: calls at the same time do not see each other.
func TestCallsAtTheSameTime(t *testing.T) {
	var all sync.WaitGroup
	for i := range 8 {
		all.Go(func() {
			key, nonce, beside, plain := sample(i, 16), sample(i+10, 12), sample(i+20, 40), sample(i+30, 90)
			want := another(t, key, nonce, beside, plain)
			for range 20 {
				if got, e := gcm.Seal(key, nonce, beside, plain); got != want || e != api.OK {
					t.Errorf("seal %d: %x, %v", i, got, e)
				}
				if got, e := gcm.Open(key, nonce, beside, want); got != plain || e != api.OK {
					t.Errorf("open %d: %x, %v", i, got, e)
				}
			}
		})
	}
	all.Wait()
}

func BenchmarkHash(b *testing.B) {
	key, blocks := sample(1, 16), sample(2, 16384)
	b.SetBytes(int64(len(blocks)))
	for b.Loop() {
		gcm.Hash(key, blocks)
	}
}

func BenchmarkSeal(b *testing.B) {
	key, nonce, plain := sample(1, 16), sample(2, 12), sample(3, 16384)
	b.SetBytes(int64(len(plain)))
	for b.Loop() {
		gcm.Seal(key, nonce, "", plain)
	}
}
