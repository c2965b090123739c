package chacha_test

import (
	"encoding/binary"
	"encoding/hex"
	"math"
	"math/rand"
	"strings"
	"testing"

	"cresset/api"
	"cresset/chacha"
)

const last = 4294967295 // the greatest number of a block

// sample is n bytes of all values, without a short period; no two seeds have
// the same.
func sample(seed, n int) string {
	b := make([]byte, n)
	rand.New(rand.NewSource(int64(seed))).Read(b)
	return string(b)
}

func unhex(t *testing.T, s string) string {
	t.Helper()
	b, err := hex.DecodeString(s)
	if err != nil {
		t.Fatal(err)
	}
	return string(b)
}

// counted is the bytes 0, 1, .., 31, a key of the document's example.
func counted() string {
	var out []byte
	for i := range 32 {
		out = append(out, byte(i))
	}
	return string(out)
}

const exampleNonce = "\x00\x00\x00\x09\x00\x00\x00\x4a\x00\x00\x00\x00"

// reference is the block that the document describes, worked out apart from
// the program: in integers of 64 bits, which are cut back after each step, and
// by the document's list of indexes.
func reference(key, nonce string, n int) string {
	const whole = 1 << 32
	start := []uint64{0x61707865, 0x3320646e, 0x79622d32, 0x6b206574}
	rest := []byte(key + string(binary.LittleEndian.AppendUint32(nil, uint32(n))) + nonce)
	for len(rest) > 0 {
		start = append(start, uint64(binary.LittleEndian.Uint32(rest)))
		rest = rest[4:]
	}
	s := append([]uint64(nil), start...)
	step := func(sum, by, turned, left int) {
		s[sum] = (s[sum] + s[by]) % whole
		wide := (s[turned] ^ s[sum]) * (1 << left)
		s[turned] = wide%whole + wide/whole
	}
	for range 10 {
		for _, i := range [][4]int{
			{0, 4, 8, 12}, {1, 5, 9, 13}, {2, 6, 10, 14}, {3, 7, 11, 15},
			{0, 5, 10, 15}, {1, 6, 11, 12}, {2, 7, 8, 13}, {3, 4, 9, 14},
		} {
			step(i[0], i[1], i[3], 16)
			step(i[2], i[3], i[1], 12)
			step(i[0], i[1], i[3], 8)
			step(i[2], i[3], i[1], 7)
		}
	}
	var out []byte
	for i := range s {
		out = binary.LittleEndian.AppendUint32(out, uint32((s[i]+start[i])%whole))
	}
	return string(out)
}

// expected is data xor the reference's blocks, byte by byte.
func expected(key, nonce string, n int, data string) string {
	out, block := []byte(data), ""
	for i := range out {
		if i%64 == 0 {
			block = reference(key, nonce, n+i/64)
		}
		out[i] ^= block[i%64]
	}
	return string(out)
}

func block(t *testing.T, key, nonce string, n int) string {
	t.Helper()
	got, e := chacha.Block(key, nonce, n)
	if e != api.OK || len(got) != 64 {
		t.Fatalf("Block(%d) = %d bytes, %v", n, len(got), e)
	}
	return got
}

func xor(t *testing.T, key, nonce string, n int, data string) string {
	t.Helper()
	got, e := chacha.Xor(key, nonce, n, data)
	if e != api.OK || len(got) != len(data) {
		t.Fatalf("Xor(%d) of %d bytes = %d bytes, %v", n, len(data), len(got), e)
	}
	return got
}

// numbers are numbers of blocks: the first, the last, and those where another
// byte of the number begins or its highest bit is set.
func numbers() []int {
	return []int{
		0, 1, 2, 42, 255, 256, 65535, 65536, 1<<24 - 1, 1 << 24,
		1<<31 - 1, 1 << 31, last - 1, last,
	}
}

// lengthsOfData are no bytes, whole blocks, and those beside them.
func lengthsOfData() []int {
	out := []int{0, 1, 2, 32}
	for _, blocks := range []int{1, 2, 3, 4, 10, 256, 257} {
		out = append(out, 64*blocks-1, 64*blocks, 64*blocks+1)
	}
	return out
}

// P3.1: blocks that RFC 8439 publishes (2.3.2 and A.1), the first of which is
// the document's example.
func TestPublishedBlocks(t *testing.T) {
	zeros := strings.Repeat("\x00", 32)
	for i, c := range []struct {
		key, nonce string
		n          int
		want       string
	}{
		{counted(), exampleNonce, 1, "10f1e7e4d13b5915500fdd1fa32071c4c7d1f4c733c068030422aa9ac3d46c4ed2826446079faa0914c2d705d98b02a2b5129cd1de164eb9cbd083e8a2503c4e"},
		{zeros, zeros[:12], 0, "76b8e0ada0f13d90405d6ae55386bd28bdd219b8a08ded1aa836efcc8b770dc7da41597c5157488d7724e03fb8d84a376a43b8f41518a11cc387b669b2ee6586"},
		{zeros, zeros[:12], 1, "9f07e7be5551387a98ba977c732d080dcb0f29a048e3656912c6533e32ee7aed29b721769ce64e43d57133b074d839d531ed1f28510afb45ace10a1f4b794d6f"},
		{zeros[:31] + "\x01", zeros[:12], 1, "3aeb5224ecf849929b9d828db1ced4dd832025e8018b8160b82284f3c949aa5a8eca00bbb4a73bdad192b5c42f73f2fd4e273644c8b36125a64addeb006c13a0"},
		{"\x00\xff" + zeros[:30], zeros[:12], 2, "72d54dfbf12ec44b362692df94137f328fea8da73990265ec1bbbea1ae9af0ca13b25aa26cb4a648cb9b9d1be65b2c0924a66c54d545ec1b7374f4872e99f096"},
		{zeros, zeros[:11] + "\x02", 0, "c2c64d378cd536374ae204b9ef933fcd1a8b2288b3dfa49672ab765b54ee27c78a970e0e955c14f3a88e741b97c286f75f8fc299e8148362fa198a39531bed6d"},
	} {
		if got := block(t, c.key, c.nonce, c.n); got != unhex(t, c.want) {
			t.Errorf("case %d: %x", i, got)
		}
	}
}

// P3.1: blocks of great numbers, up to the last, as another program (OpenSSL)
// answers them.
func TestBlocksOfGreatNumbers(t *testing.T) {
	ones := strings.Repeat("\xff", 32)
	for _, c := range []struct {
		key, nonce string
		n          int
		want       string
	}{
		{counted(), exampleNonce, 1<<31 - 1, "02c70b58c51c334271e4620ca0592ec09518c06f9b4c89d41ba9bf9c90518f2b946f3568416c381a02cdc045dce4215ad002f237cd35400b6ad1a88ffdcf4fa0"},
		{counted(), exampleNonce, 1 << 31, "4c76f034662332641d91b481c074c7454e969ecae52c92c9df756ba56a7cd932d4750c0d1e0609fc44ee6681cd75bdad5a82f37b3586029e9a89a64726396f47"},
		{counted(), exampleNonce, last - 1, "bed7e9fb1985cf676d5b3eee7cdd741282a8e6703109423c0c15c551a64d374f8a897645cf2688709dc061487d111682e4be93a05f18df4a1d292f8ca8b5f460"},
		{counted(), exampleNonce, last, "ff2941b8d740f6cbb50936bf997ebd5218cb108dc53f41c64841d0218167430ca03b770ca74ccb642a28194d1dedd2ed13151e25ec5d7faeb6d060bfb7e6b146"},
		{ones, ones[:12], last, "d72b21cfa4b6b0c41d61f62b8a11159c6a4f63bc56c2035796c7ad37811121bbec56d54a530f3a933dd28a50feb23bfaf64f405be985f3718bdf4683e96be749"},
	} {
		if got := block(t, c.key, c.nonce, c.n); got != unhex(t, c.want) {
			t.Errorf("block %d: %x", c.n, got)
		}
	}
}

// P3.1: many keys and nonces, at every number.
func TestBlocksOfManyKeys(t *testing.T) {
	for seed := range 200 {
		key, nonce := sample(seed, 32), sample(1000+seed, 12)
		for _, n := range append(numbers(), rand.New(rand.NewSource(int64(seed))).Perm(1 << 10)[:3]...) {
			if got := block(t, key, nonce, n); got != reference(key, nonce, n) {
				t.Errorf("seed %d, block %d: %x", seed, n, got)
			}
		}
	}
}

// P3.1: each bit of the key and of the nonce has its own place.
func TestBlocksOfSingleBits(t *testing.T) {
	seen := map[string]int{}
	for bit := range 8 * (32 + 12) {
		b := make([]byte, 32+12)
		b[bit/8] = 1 << (bit % 8)
		key, nonce := string(b[:32]), string(b[32:])
		got := block(t, key, nonce, 7)
		if got != reference(key, nonce, 7) {
			t.Errorf("bit %d: %x", bit, got)
		}
		if other, ok := seen[got]; ok {
			t.Errorf("bits %d and %d have the same block", other, bit)
		}
		seen[got] = bit
	}
}

// P3.1 and P3.2: what is refused by both functions, and which error comes
// first when there are several.
func TestWrongArguments(t *testing.T) {
	for _, c := range []struct {
		key, nonce, n int
		want          api.Errno
	}{
		{32, 12, 0, api.OK},
		{32, 12, last, api.OK},
		{31, 12, 0, api.ErrKey},
		{33, 12, 0, api.ErrKey},
		{0, 12, 0, api.ErrKey},
		{16, 12, 0, api.ErrKey},
		{64, 12, 0, api.ErrKey},
		{256 + 32, 12, 0, api.ErrKey},
		{65536 + 32, 12, 0, api.ErrKey},
		{32, 11, 0, api.ErrKey},
		{32, 13, 0, api.ErrKey},
		{32, 0, 0, api.ErrKey},
		{32, 8, 0, api.ErrKey},
		{32, 24, 0, api.ErrKey},
		{32, 256 + 12, 0, api.ErrKey},
		{12, 32, 0, api.ErrKey},
		{31, 13, 0, api.ErrKey},
		{33, 11, 0, api.ErrKey},
		{0, 0, 0, api.ErrKey},
		{32, 12, -1, api.ErrArg},
		{32, 12, -last, api.ErrArg},
		{32, 12, -last - 1, api.ErrArg},
		{32, 12, math.MinInt, api.ErrArg},
		{32, 12, math.MinInt + 1, api.ErrArg},
		{32, 12, last + 1, api.ErrArg},
		{32, 12, last + 2, api.ErrArg},
		{32, 12, 1 << 33, api.ErrArg},
		{32, 12, 1<<40 + 5, api.ErrArg},
		{32, 12, math.MaxInt - 1, api.ErrArg},
		{32, 12, math.MaxInt, api.ErrArg},
		{31, 12, -1, api.ErrKey},
		{33, 12, last + 1, api.ErrKey},
		{32, 11, -1, api.ErrKey},
		{32, 13, math.MaxInt, api.ErrKey},
		{0, 0, math.MinInt, api.ErrKey},
	} {
		key, nonce := sample(c.key, c.key), sample(c.nonce, c.nonce)
		got, e := chacha.Block(key, nonce, c.n)
		if e != c.want || (got == "") != (e != api.OK) {
			t.Errorf("Block(%d) of %d and %d bytes = %d bytes, %v", c.n, c.key, c.nonce, len(got), e)
		}
		for _, length := range []int{0, 1, 64} {
			got, e := chacha.Xor(key, nonce, c.n, sample(1, length))
			if e != c.want || e != api.OK && got != "" {
				t.Errorf("Xor(%d) of %d, %d and %d bytes = %d bytes, %v", c.n, c.key, c.nonce, length, len(got), e)
			}
		}
	}
}

// P3.2: a key, a nonce or a number that is wrong comes ahead of too much data.
func TestErrBigComesLast(t *testing.T) {
	data := sample(1, 1000)
	for _, c := range []struct {
		key, nonce, n int
		want          api.Errno
	}{
		{32, 12, last, api.ErrBig},
		{31, 12, last, api.ErrKey},
		{33, 12, last, api.ErrKey},
		{32, 11, last, api.ErrKey},
		{32, 13, last, api.ErrKey},
		{32, 12, last + 1, api.ErrArg},
		{32, 12, math.MaxInt, api.ErrArg},
		{32, 12, -1, api.ErrArg},
		{31, 13, last + 1, api.ErrKey},
	} {
		got, e := chacha.Xor(sample(2, c.key), sample(3, c.nonce), c.n, data)
		if e != c.want || got != "" {
			t.Errorf("Xor(%d) of %d and %d bytes = %d bytes, %v", c.n, c.key, c.nonce, len(got), e)
		}
	}
}

// P3.2: what RFC 8439 publishes (2.4.2 and A.2).
func TestPublishedTexts(t *testing.T) {
	for i, c := range []struct {
		key, nonce string
		n          int
		data, want string
	}{
		{
			counted(), strings.Repeat("\x00", 7) + "\x4a" + strings.Repeat("\x00", 4), 1,
			"Ladies and Gentlemen of the class of '99: If I could offer you only one tip for the future, sunscreen would be it.",
			"6e2e359a2568f98041ba0728dd0d6981e97e7aec1d4360c20a27afccfd9fae0bf91b65c5524733ab8f593dabcd62b3571639d624e65152ab8f530c359f0861d807ca0dbf500d6a6156a38e088a22b65e52bc514d16ccf806818ce91ab77937365af90bbf74a35be6b40b8eedf2785e42874d",
		},
		{
			unhex(t, "1c9240a5eb55d38af333888604f6b5f0473917c1402b80099dca5cbc207075c0"), strings.Repeat("\x00", 11) + "\x02", 42,
			"'Twas brillig, and the slithy toves\nDid gyre and gimble in the wabe:\nAll mimsy were the borogoves,\nAnd the mome raths outgrabe.",
			"62e6347f95ed87a45ffae7426f27a1df5fb69110044c0d73118effa95b01e5cf166d3df2d721caf9b21e5fb14c616871fd84c54f9d65b283196c7fe4f60553ebf39c6402c42234e32a356b3e764312a61a5532055716ead6962568f87d3f3f7704c6a8d1bcd1bf4d50d6154b6da731b187b58dfd728afa36757a797ac188d1",
		},
	} {
		if got := xor(t, c.key, c.nonce, c.n, c.data); got != unhex(t, c.want) {
			t.Errorf("case %d: %x", i, got)
		}
	}
}

// P3.2: data of every length past a few blocks, and of many blocks.
func TestXorOfEveryLength(t *testing.T) {
	lengths := lengthsOfData()
	for n := range 4*64 + 2 {
		lengths = append(lengths, n)
	}
	for _, length := range lengths {
		key, nonce, data := sample(length, 32), sample(2000+length, 12), sample(3000+length, length)
		for _, n := range []int{0, 1, 250, 65530, 1<<24 - 2, 1<<31 - 2} {
			if got := xor(t, key, nonce, n, data); got != expected(key, nonce, n, data) {
				t.Errorf("Xor(%d) of %d bytes is wrong", n, length)
			}
		}
	}
}

// P3.2: the stream under data of zero bytes is what Block returns, block after
// block.
func TestXorIsBlocks(t *testing.T) {
	key, nonce := sample(1, 32), sample(2, 12)
	for _, n := range append(numbers(), last-2, last-3) {
		blocks := min(4, last-n+1)
		want := ""
		for i := range blocks {
			want += block(t, key, nonce, n+i)
		}
		if got := xor(t, key, nonce, n, strings.Repeat("\x00", 64*blocks)); got != want {
			t.Errorf("Xor(%d) of %d blocks: %x", n, blocks, got)
		}
		if got := xor(t, key, nonce, n, strings.Repeat("\xff", 64*blocks)); got[0] != want[0]^0xff || got[64*blocks-1] != want[64*blocks-1]^0xff {
			t.Errorf("Xor(%d) of %d blocks of ones: %x", n, blocks, got)
		}
	}
}

// P3.2: data that ends in the last block there is, and a byte more.
func TestXorAtTheLastBlock(t *testing.T) {
	key, nonce := sample(1, 32), sample(2, 12)
	for _, room := range []int{1, 2, 3, 256, 1000} {
		n := last + 1 - room
		for _, length := range []int{0, 1, 64*room - 64, 64*room - 63, 64*room - 1, 64 * room} {
			data := sample(length, length)
			if got := xor(t, key, nonce, n, data); got != expected(key, nonce, n, data) {
				t.Errorf("Xor(%d) of %d bytes is wrong", n, length)
			}
		}
		for _, length := range []int{64*room + 1, 64*room + 63, 64*room + 64, 64*room + 65, 128 * room} {
			if got, e := chacha.Xor(key, nonce, n, sample(length, length)); got != "" || e != api.ErrBig {
				t.Errorf("Xor(%d) of %d bytes = %d bytes, %v", n, length, len(got), e)
			}
		}
	}
}

// P3.3: twice is not at all.
func TestXorTwice(t *testing.T) {
	for i, length := range lengthsOfData() {
		key, nonce, data := sample(i, 32), sample(100+i, 12), sample(200+i, length)
		for _, n := range []int{0, 1, 1 << 31, last + 1 - (length+63)/64} {
			n = min(n, last)
			once := xor(t, key, nonce, n, data)
			if length >= 32 && once == data {
				t.Errorf("Xor(%d) of %d bytes changes nothing", n, length)
			}
			if xor(t, key, nonce, n, once) != data {
				t.Errorf("Xor(%d) twice of %d bytes is not the data", n, length)
			}
		}
	}
}

// P3.3: what follows a whole number of blocks is Xor from a later block on.
func TestXorOfParts(t *testing.T) {
	key, nonce := sample(1, 32), sample(2, 12)
	for _, length := range []int{1, 63, 64, 65, 128, 300, 640, 1000} {
		data := sample(length, length)
		for _, n := range []int{0, 3, 250, 65534, 1<<31 - 3, last + 1 - (length+63)/64} {
			whole := xor(t, key, nonce, n, data)
			for blocks := 0; 64*blocks <= length && n+blocks <= last; blocks++ {
				at := 64 * blocks
				head := xor(t, key, nonce, n, data[:at])
				rest := xor(t, key, nonce, n+blocks, data[at:])
				if head+rest != whole {
					t.Errorf("Xor(%d) of %d bytes, in parts at %d, is another", n, length, at)
				}
			}
		}
	}
}

// R3: a call leaves nothing behind that another one would see.
func TestCallsAreApart(t *testing.T) {
	key, nonce, data := sample(1, 32), sample(2, 12), sample(3, 200)
	first := xor(t, key, nonce, 9, data)
	xor(t, sample(4, 32), sample(5, 12), 100, sample(6, 500))
	block(t, sample(7, 32), sample(8, 12), last)
	chacha.Xor(key, nonce, last, data)
	chacha.Block(key, nonce, -1)
	if again := xor(t, key, nonce, 9, data); again != first {
		t.Errorf("%x, then %x", first, again)
	}
}

func BenchmarkXor(b *testing.B) {
	key, nonce, data := sample(1, 32), sample(2, 12), sample(3, 1<<20)
	b.SetBytes(int64(len(data)))
	for b.Loop() {
		chacha.Xor(key, nonce, 0, data)
	}
}
