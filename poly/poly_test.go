package poly_test

import (
	"encoding/hex"
	"math/big"
	"math/rand"
	"slices"
	"strings"
	"testing"

	"cresset/api"
	"cresset/poly"
)

// sample is n bytes of all values, without a short period; no two seeds have
// the same.
func sample(seed, n int) string {
	b := make([]byte, n)
	rand.New(rand.NewSource(int64(seed))).Read(b)
	return string(b)
}

func unhex(t *testing.T, s string) string {
	t.Helper()
	b, err := hex.DecodeString(s)
	if err != nil {
		t.Fatal(err)
	}
	return string(b)
}

// zeros and ones are n bytes of no bits and of all bits.
func zeros(n int) string { return strings.Repeat("\x00", n) }
func ones(n int) string  { return strings.Repeat("\xff", n) }

// number is the integer that s encodes, and bytes the encoding of the low 128
// bits of v.
func number(s string) *big.Int {
	b := []byte(s)
	slices.Reverse(b)
	return new(big.Int).SetBytes(b)
}

func bytes(v *big.Int) string {
	b := new(big.Int).Mod(v, power(128)).FillBytes(make([]byte, 16))
	slices.Reverse(b)
	return string(b)
}

func power(n uint) *big.Int { return new(big.Int).Lsh(big.NewInt(1), n) }

func sum(v ...*big.Int) *big.Int {
	out := new(big.Int)
	for _, w := range v {
		out.Add(out, w)
	}
	return out
}

func prime() *big.Int { return sum(power(130), big.NewInt(-5)) }

// factorOf is r of a key: its mask is the one that RFC 8439 gives.
func factorOf(key string) *big.Int {
	mask, _ := new(big.Int).SetString("0ffffffc0ffffffc0ffffffc0fffffff", 16)
	return mask.And(mask, number(key[:16]))
}

// accumulator is a after all pieces, worked out apart from the program.
func accumulator(key, data string) *big.Int {
	a, r := new(big.Int), factorOf(key)
	for at := 0; at < len(data); at += 16 {
		a.Add(a, number(data[at:min(at+16, len(data))]+"\x01"))
		a.Mul(a, r).Mod(a, prime())
	}
	return a
}

func reference(key, data string) string {
	return bytes(sum(accumulator(key, data), number(key[16:])))
}

func tag(t *testing.T, key, data string) string {
	t.Helper()
	got, e := poly.Tag(key, data)
	if e != api.OK || len(got) != 16 {
		t.Fatalf("Tag of %d bytes = %d bytes, %v", len(data), len(got), e)
	}
	return got
}

// check holds a tag against the reference.
func check(t *testing.T, key, data string) {
	t.Helper()
	if got, want := tag(t, key, data), reference(key, data); got != want {
		t.Errorf("Tag of %d bytes, key %x = %x, not %x", len(data), key, got, want)
	}
}

const contribution = `Any submission to the IETF intended by the Contributor for publication as all or part of an IETF Internet-Draft or RFC and any statement made within the context of an IETF activity is considered an "IETF Contribution". Such statements include oral statements in IETF sessions, as well as written and electronic communications made at any time or place, which are addressed to`

const jabberwocky = "'Twas brillig, and the slithy toves\nDid gyre and gimble in the wabe:\nAll mimsy were the borogoves,\nAnd the mome raths outgrabe."

// P4.1: tags that RFC 8439 publishes (2.5.2 and A.3), the first of which is the
// document's example.
func TestPublishedTags(t *testing.T) {
	for i, c := range []struct{ key, data, want string }{
		{unhex(t, "85d6be7857556d337f4452fe42d506a80103808afb0db2fd4abff6af4149f51b"), "Cryptographic Forum Research Group", "a8061dc1305136c6c22b8baf0c0127a9"},
		{zeros(32), zeros(64), "00000000000000000000000000000000"},
		{zeros(16) + unhex(t, "36e5f6b5c5e06070f0efca96227a863e"), contribution, "36e5f6b5c5e06070f0efca96227a863e"},
		{unhex(t, "36e5f6b5c5e06070f0efca96227a863e") + zeros(16), contribution, "f3477e7cd95417af89a6b8794c310cf0"},
		{unhex(t, "1c9240a5eb55d38af333888604f6b5f0473917c1402b80099dca5cbc207075c0"), jabberwocky, "4541669a7eaaee61e708dc7cbcc5eb62"},
		{"\x02" + zeros(31), ones(16), "03000000000000000000000000000000"},
		{"\x02" + zeros(15) + ones(16), "\x02" + zeros(15), "03000000000000000000000000000000"},
		{"\x01" + zeros(31), ones(16) + "\xf0" + ones(15) + "\x11" + zeros(15), "05000000000000000000000000000000"},
		{"\x01" + zeros(31), ones(16) + "\xfb" + strings.Repeat("\xfe", 15) + strings.Repeat("\x01", 16), "00000000000000000000000000000000"},
		{"\x02" + zeros(31), "\xfd" + ones(15), "faffffffffffffffffffffffffffffff"},
		{"\x01" + zeros(7) + "\x04" + zeros(23), unhex(t, "e33594d7505e43b900000000000000003394d7505e4379cd01000000000000000000000000000000000000000000000001000000000000000000000000000000"), "14000000000000005500000000000000"},
		{"\x01" + zeros(7) + "\x04" + zeros(23), unhex(t, "e33594d7505e43b900000000000000003394d7505e4379cd010000000000000000000000000000000000000000000000"), "13000000000000000000000000000000"},
	} {
		if got := tag(t, c.key, c.data); got != unhex(t, c.want) {
			t.Errorf("case %d: %x", i, got)
		}
		check(t, c.key, c.data)
	}
}

// counted is the bytes 0, 1, .., n - 1.
func counted(n int) string {
	out := make([]byte, n)
	for i := range out {
		out[i] = byte(i)
	}
	return string(out)
}

// P4.1: tags of short and long data, as another program (OpenSSL) answers
// them.
func TestTagsOfAnotherProgram(t *testing.T) {
	long := make([]byte, 100000)
	for i := range long {
		v := int64(i) // an int may have 32 bits only
		long[i] = byte((v*v + 7*v) / 3)
	}
	for _, c := range []struct{ key, data, want string }{
		{counted(32), "", "101112131415161718191a1b1c1d1e1f"},
		{counted(32), counted(1), "1f11131517191b1d1f21232527292b2d"},
		{counted(32), counted(15), "5305236ca07fc93d9ca416b23664fa50"},
		{counted(32), counted(16), "a2291a363def0b53845fa4126a6ad364"},
		{counted(32), counted(17), "f735c97f7308fd79222447fe76a96872"},
		{counted(32), counted(31), "7c57daa799d3d38243034a4af1f6ed2b"},
		{counted(32), counted(32), "e4a30dc29abba238e086b49b2916f440"},
		{counted(32), counted(33), "45b320cbeff5d7b485f3487c4d74dadd"},
		{counted(32), counted(255), "4816ca3a2f556afdf5d1a395518da0fe"},
		{counted(32), string(long), "720041852579452e5bcf098f6baea5fb"},
		{ones(32), "", "ffffffffffffffffffffffffffffffff"},
		{ones(32), zeros(1), "0effffff0ffcffff0ffcffff0ffcffff"},
		{ones(32), ones(16), "fbffff17faffff17faffff17faffff17"},
		{ones(32), ones(17), "7cfe7ff768f81f2763f8bf565df85f86"},
		{ones(32), ones(32), "5400801f3f00204f3900c07e330060ae"},
		{ones(32), ones(31), "5400a8ed4800481d4300e84c3d008884"},
	} {
		if got := tag(t, c.key, c.data); got != unhex(t, c.want) {
			t.Errorf("Tag of %d bytes, key %x = %x", len(c.data), c.key, got)
		}
	}
}

// P4.1: data of every length past a few pieces, and of whole pieces, one byte
// less and one byte more; of no bits, of all bits and of any.
func TestTagsOfEveryLength(t *testing.T) {
	var lengths []int
	for n := range 10*16 + 2 {
		lengths = append(lengths, n)
	}
	for _, pieces := range []int{16, 17, 63, 64, 65, 255, 256, 257, 1000} {
		lengths = append(lengths, 16*pieces-1, 16*pieces, 16*pieces+1)
	}
	for _, n := range lengths {
		for i, key := range []string{sample(n, 32), sample(n, 16) + ones(16), ones(32), ones(16) + zeros(16), "\x01" + zeros(31)} {
			for _, data := range []string{sample(1000*i+n, n), zeros(n), ones(n)} {
				check(t, key, data)
			}
		}
	}
}

// P4.1: the length of a piece counts too, and so does that there is one: data
// of zero bytes has another tag for every length.
func TestZeroBytesCount(t *testing.T) {
	key, seen := sample(1, 32), map[string]int{}
	for n := range 100 {
		got := tag(t, key, zeros(n))
		if other, ok := seen[got]; ok {
			t.Errorf("%d and %d zero bytes have the same tag", n, other)
		}
		seen[got] = n
	}
}

// cleared tells of a bit of the key whether the document clears it.
func cleared(bit int) bool {
	at, high, low := bit/8, bit%8 >= 4, bit%8 < 2
	switch at {
	case 3, 7, 11, 15:
		return high
	case 4, 8, 12:
		return low
	}
	return false
}

// P4.1: a bit of the key counts or not, each by itself: alone in r, missing
// from r, and turned over among others.
func TestEveryBitOfTheKey(t *testing.T) {
	data, some := sample(1, 100), sample(2, 32)
	number := 0
	for bit := range 256 {
		if cleared(bit) {
			number++
		}
		for _, key := range []string{zeros(32), ones(32), some} {
			b := []byte(key)
			b[bit/8] ^= 1 << (bit % 8)
			check(t, string(b), data)
			if same := tag(t, string(b), data) == tag(t, key, data); same != cleared(bit) {
				t.Errorf("bit %d of the byte %d counts: %v", bit%8, bit/8, !same)
			}
		}
	}
	if number != 4*4+3*2 {
		t.Errorf("%d bits are cleared", number)
	}
}

// P4.1: a key of all cleared bits has an r of 0, and each of them beside an r
// makes no difference.
func TestAllClearedBits(t *testing.T) {
	b := make([]byte, 32)
	for bit := range 128 {
		if cleared(bit) {
			b[bit/8] |= 1 << (bit % 8)
		}
	}
	if got := tag(t, string(b), sample(1, 50)); got != zeros(16) {
		t.Errorf("only cleared bits: %x", got)
	}
	with, without := []byte(sample(2, 32)), []byte(sample(2, 32))
	for i := range 16 {
		with[i] |= b[i]
		without[i] &^= b[i]
	}
	for _, n := range []int{1, 16, 17, 100} {
		if tag(t, string(with), sample(3, n)) != tag(t, string(without), sample(3, n)) {
			t.Errorf("data of %d bytes: the cleared bits count", n)
		}
	}
}

// around are integers beside the edges of the last reduction: those that p and
// what is above it come down to, p - 1, and where the low 128 bits end.
func around() []*big.Int {
	var out []*big.Int
	for d := range 8 {
		out = append(out, big.NewInt(int64(d)), sum(prime(), big.NewInt(int64(-1-d))))
		for top := range 4 {
			edge := new(big.Int).Mul(power(128), big.NewInt(int64(top)))
			out = append(out, sum(edge, big.NewInt(int64(d))))
			if top > 0 {
				out = append(out, sum(edge, big.NewInt(int64(-1-d))))
			}
		}
	}
	return out
}

// pieceFor is a last piece of 16 bytes that takes the accumulator from what
// the data before it leaves to target, if there is one.
func pieceFor(key, before string, target *big.Int) (string, bool) {
	v := new(big.Int).ModInverse(factorOf(key), prime())
	v.Mul(v, target)
	v.Sub(v, sum(accumulator(key, before), power(128)))
	v.Mod(v, prime())
	return bytes(v), v.Cmp(power(128)) < 0
}

// P4.1: accumulators that end at every edge, after multiplications by any r. An
// accumulator of 0 to 4 is one that was at p or up to 4 above it before its
// last reduction.
func TestLastReduction(t *testing.T) {
	for _, target := range around() {
		met := 0
		for seed := 0; met < 24; seed++ {
			key := sample(seed, 16) + zeros(16)
			before := sample(5000+seed, 16*(seed%4))
			piece, ok := pieceFor(key, before, target)
			if !ok {
				continue
			}
			met++
			if accumulator(key, before+piece).Cmp(target) != 0 {
				t.Fatalf("the accumulator is not %x", target)
			}
			if got := tag(t, key, before+piece); got != bytes(target) {
				t.Errorf("accumulator %x, key %x: %x", target, key, got)
			}
		}
	}
}

// summing is data of so many pieces whose numbers, with the 2^128 of each, have
// that sum, if there is any: the pieces are full from the first on, or level.
func summing(total *big.Int, pieces int, level bool) (string, bool) {
	most := sum(power(128), big.NewInt(-1))
	rest := new(big.Int).Sub(total, new(big.Int).Mul(power(128), big.NewInt(int64(pieces))))
	if rest.Sign() < 0 || rest.Cmp(new(big.Int).Mul(most, big.NewInt(int64(pieces)))) > 0 {
		return "", false
	}
	data := ""
	for left := pieces; left > 0; left-- {
		v := new(big.Int).Set(rest)
		if level {
			v.Div(v, big.NewInt(int64(left)))
		} else if v.Cmp(most) > 0 {
			v.Set(most)
		}
		data += bytes(v)
		rest.Sub(rest, v)
	}
	return data, rest.Sign() == 0
}

// P4.1: with r = 1 the accumulator is a plain sum, and ends at p - 1, at p, at
// what lies between p and 2^130, above that, and beside multiples of p.
func TestSumsBesideThePrime(t *testing.T) {
	key, made := "\x01"+zeros(31), 0
	for multiple := int64(1); multiple <= 5; multiple++ {
		for d := int64(-8); d <= 12; d++ {
			total := sum(new(big.Int).Mul(prime(), big.NewInt(multiple)), big.NewInt(d))
			want := bytes(new(big.Int).Mod(total, prime()))
			for pieces := 1; pieces <= 20; pieces++ {
				for _, level := range []bool{true, false} {
					data, ok := summing(total, pieces, level)
					if !ok {
						continue
					}
					made++
					if got := tag(t, key, data); got != want {
						t.Errorf("%d p + %d in %d pieces: %x, not %x", multiple, d, pieces, got, want)
					}
				}
			}
		}
	}
	if made < 600 {
		t.Errorf("only %d sums", made)
	}
}

// P4.1: the sum a + s of 2^128 and more, beside it, and as great as it can be;
// its low 128 bits are the tag.
func TestSumWithS(t *testing.T) {
	for i, target := range around() {
		before, half, piece, ok := sample(i, 16), "", "", false
		for seed := 0; !ok; seed++ {
			half = sample(7000*i+seed, 16)
			piece, ok = pieceFor(half+zeros(16), before, target)
		}
		data := before + piece
		for d := int64(-3); d <= 3; d++ {
			s := bytes(sum(power(128), new(big.Int).Neg(target), big.NewInt(d)))
			want := bytes(big.NewInt(d))
			if got := tag(t, half+s, data); got != want {
				t.Errorf("accumulator %x, s %x: %x, not %x", target, s, got, want)
			}
		}
		for _, s := range []string{ones(16), zeros(15) + "\x80", ones(15) + "\x7f", sample(i, 16)} {
			check(t, half+s, data)
			check(t, half+s, data+ones(16)+zeros(3))
		}
	}
}

// P4.1: a carry runs through all bytes of a + s, whichever byte it begins in.
func TestCarriesOfTheSum(t *testing.T) {
	for at := range 16 {
		data := zeros(at) + "\x01" + zeros(15-at)
		s := zeros(at) + ones(16-at)
		key := "\x01" + zeros(15) + s
		if got := tag(t, key, data); got != zeros(16) {
			t.Errorf("a carry from the byte %d on: %x", at, got)
		}
	}
}

// P4.1: a key of another length is refused, whatever the data is.
func TestWrongKeys(t *testing.T) {
	for _, n := range []int{0, 1, 15, 16, 17, 30, 31, 33, 34, 48, 63, 64, 256, 256 + 32, 65536 + 32} {
		for _, data := range []string{"", "d", sample(1, 16), sample(2, 1000)} {
			for _, key := range []string{sample(n, n), zeros(n), ones(n)} {
				if got, e := poly.Tag(key, data); got != "" || e != api.ErrKey {
					t.Errorf("a key of %d bytes, data of %d: %x, %v", n, len(data), got, e)
				}
			}
		}
	}
	for _, key := range []string{sample(1, 32), zeros(32), ones(32)} {
		if got, e := poly.Tag(key, "d"); len(got) != 16 || e != api.OK {
			t.Errorf("a key of 32 bytes: %x, %v", got, e)
		}
	}
}

// P4.2: the tag of the empty string is the encoding of s, whatever r is.
func TestEmptyString(t *testing.T) {
	for seed := range 50 {
		for _, s := range []string{sample(seed, 16), zeros(16), ones(16)} {
			for _, r := range []string{sample(100+seed, 16), zeros(16), ones(16)} {
				if got := tag(t, r+s, ""); got != s {
					t.Errorf("r %x, s %x: %x", r, s, got)
				}
			}
		}
	}
}

// P4.2: if r is 0, the tag of every string is the encoding of s.
func TestFactorZero(t *testing.T) {
	onlyCleared := "\x00\x00\x00\xf0\x03\x00\x00\xf0\x03\x00\x00\xf0\x03\x00\x00\xf0"
	for _, r := range []string{zeros(16), onlyCleared} {
		for n := range 100 {
			for _, s := range []string{sample(n, 16), zeros(16), ones(16)} {
				for _, data := range []string{sample(200+n, n), zeros(n), ones(n)} {
					if got := tag(t, r+s, data); got != s {
						t.Errorf("s %x, data of %d bytes: %x", s, n, got)
					}
				}
			}
		}
	}
}

// R3: a call leaves nothing behind that another one would see.
func TestCallsAreApart(t *testing.T) {
	key, data := sample(1, 32), sample(2, 200)
	first := tag(t, key, data)
	tag(t, ones(32), ones(500))
	tag(t, sample(3, 32), sample(4, 7))
	poly.Tag(sample(5, 31), data)
	if again := tag(t, key, data); again != first {
		t.Errorf("%x, then %x", first, again)
	}
}

func BenchmarkTag(b *testing.B) {
	key, data := sample(1, 32), sample(2, 1<<20)
	b.SetBytes(int64(len(data)))
	for b.Loop() {
		poly.Tag(key, data)
	}
}
