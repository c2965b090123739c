package aes_test

import (
	stdaes "crypto/aes"
	"encoding/hex"
	"math/rand"
	"slices"
	"strings"
	"testing"
	"unsafe"

	"cresset/aes"
	"cresset/api"
)

// sample is n bytes of all values, without a short period; no two seeds have
// the same.
func sample(seed, n int) string {
	b := make([]byte, n)
	rand.New(rand.NewSource(int64(seed))).Read(b)
	return string(b)
}

func unhex(t *testing.T, s string) string {
	t.Helper()
	b, err := hex.DecodeString(s)
	if err != nil {
		t.Fatal(err)
	}
	return string(b)
}

// zeros and ones are n bytes of no bits and of all bits, and single is 16 bytes
// of one bit.
func zeros(n int) string { return strings.Repeat("\x00", n) }
func ones(n int) string  { return strings.Repeat("\xff", n) }

func single(bit int) string {
	b := make([]byte, 16)
	b[bit/8] = 1 << (bit % 8)
	return string(b)
}

// counted is the bytes 0, 1, .., 15, the key of the document's example.
func counted() string {
	var b []byte
	for i := range 16 {
		b = append(b, byte(i))
	}
	return string(b)
}

// xor is a xor b, byte by byte.
func xor(a, b string) string {
	out := []byte(a)
	for i := range out {
		out[i] ^= b[i]
	}
	return string(out)
}

// product is that of two polynomials: the whole product first, and then its
// remainder by the division that one learns at school.
func product(a, b int) int {
	whole := 0
	for i := range 8 {
		if b>>i&1 == 1 {
			whole ^= a << i
		}
	}
	for i := 14; i >= 8; i-- {
		if whole>>i&1 == 1 {
			whole ^= 0x11b << (i - 8)
		}
	}
	return whole
}

// inverse is the byte whose product with b is 1, by trying; that of 0 is 0.
func inverse(b int) int {
	for i := range 256 {
		if product(i, b) == 1 {
			return i
		}
	}
	return 0
}

// expectedSwap is the document's words, worked out apart from the program.
func expectedSwap(b int) int {
	i := inverse(b)
	out := i ^ 0x63
	for n := 1; n <= 4; n++ {
		out ^= i<<n&0xff | i>>(8-n)
	}
	return out
}

// swapTable is expectedSwap of all bytes.
func swapTable() []int {
	var out []int
	for b := range 256 {
		out = append(out, expectedSwap(b))
	}
	return out
}

// expectedKeys is the words w[0] to w[43] as the document tells them, four to
// a round key.
func expectedKeys(table []int, key string) []string {
	var w []string
	for i := range 4 {
		w = append(w, key[4*i:4*i+4])
	}
	power := 1
	for i := 4; i < 44; i++ {
		last := w[i-1]
		if i%4 == 0 {
			moved := last[1:] + last[:1]
			b := make([]byte, 4)
			for j := range b {
				b[j] = byte(table[moved[j]])
			}
			b[0] ^= byte(power)
			power = product(power, 2)
			last = string(b)
		}
		w = append(w, xor(w[i-4], last))
	}
	var out []string
	for i := 0; i < 44; i += 4 {
		out = append(out, strings.Join(w[i:i+4], ""))
	}
	return out
}

// expectedBlock is a block through the rounds that the document tells, in a
// square of rows and columns.
func expectedBlock(table []int, key, block string) string {
	var s [4][4]int // rows of columns
	keys := expectedKeys(table, key)
	add := func(k string) {
		for i := range 16 {
			s[i%4][i/4] ^= int(k[i])
		}
	}
	add(block)
	add(keys[0])
	for round := 1; round <= 10; round++ {
		for r := range 4 {
			for c := range 4 {
				s[r][c] = table[s[r][c]]
			}
			row := s[r][:]
			copy(row, slices.Concat(row[r:], row[:r]))
		}
		for c := range 4 {
			if round == 10 {
				break
			}
			a, b, x, y := s[0][c], s[1][c], s[2][c], s[3][c]
			s[0][c] = product(a, 2) ^ product(b, 3) ^ x ^ y
			s[1][c] = a ^ product(b, 2) ^ product(x, 3) ^ y
			s[2][c] = a ^ b ^ product(x, 2) ^ product(y, 3)
			s[3][c] = product(a, 3) ^ b ^ x ^ product(y, 2)
		}
		add(keys[round])
	}
	out := make([]byte, 16)
	for i := range out {
		out[i] = byte(s[i%4][i/4])
	}
	return string(out)
}

// another is what the Go library answers for a block.
func another(t *testing.T, key, block string) string {
	t.Helper()
	c, err := stdaes.NewCipher([]byte(key))
	if err != nil {
		t.Fatal(err)
	}
	out := make([]byte, 16)
	c.Encrypt(out, []byte(block))
	return string(out)
}

// back is the block whose encryption is out, as the Go library answers it.
func back(t *testing.T, key, out string) string {
	t.Helper()
	c, err := stdaes.NewCipher([]byte(key))
	if err != nil {
		t.Fatal(err)
	}
	block := make([]byte, 16)
	c.Decrypt(block, []byte(out))
	return string(block)
}

func encrypt(t *testing.T, key, block string) string {
	t.Helper()
	got, e := aes.Block(key, block)
	if e != api.OK || len(got) != 16 {
		t.Fatalf("Block(%x, %x) = %d bytes, %v", key, block, len(got), e)
	}
	return got
}

func encryptAll(t *testing.T, key string, blocks []string) []string {
	t.Helper()
	got, e := aes.Blocks(key, blocks...)
	if e != api.OK || len(got) != len(blocks) {
		t.Fatalf("Blocks(%x) of %d = %d, %v", key, len(blocks), len(got), e)
	}
	return got
}

func expand(t *testing.T, key string) []string {
	t.Helper()
	got, e := aes.Keys(key)
	if e != api.OK || len(got) != 11 {
		t.Fatalf("Keys(%x) = %d keys, %v", key, len(got), e)
	}
	return got
}

// someKeys are keys of no bits, all bits, a single bit, and of any.
func someKeys() []string {
	out := []string{zeros(16), ones(16), counted()}
	for bit := range 128 {
		out = append(out, single(bit), xor(ones(16), single(bit)))
	}
	for seed := range 200 {
		out = append(out, sample(seed, 16))
	}
	return out
}

// lengths are those of keys and blocks that are not 16 bytes, among them some
// of which 16 would be left if only the low bits of a length counted.
func lengths() []int {
	return []int{0, 1, 2, 4, 8, 14, 15, 17, 18, 24, 31, 32, 33, 48, 64, 256, 256 + 16, 65536 + 16}
}

// publishedTable is the substitution as FIPS 197 prints it.
const publishedTable = "637c777bf26b6fc53001672bfed7ab76" +
	"ca82c97dfa5947f0add4a2af9ca472c0" +
	"b7fd9326363ff7cc34a5e5f171d83115" +
	"04c723c31896059a071280e2eb27b275" +
	"09832c1a1b6e5aa0523bd6b329e32f84" +
	"53d100ed20fcb15b6acbbe394a4c58cf" +
	"d0efaafb434d338545f9027f503c9fa8" +
	"51a3408f929d38f5bcb6da2110fff3d2" +
	"cd0c13ec5f974417c4a77e3d645d1973" +
	"60814fdc222a908846eeb814de5e0bdb" +
	"e0323a0a4906245cc2d3ac629195e479" +
	"e7c8376d8dd54ea96c56f4ea657aae08" +
	"ba78252e1ca6b4c6e8dd741f4bbd8b8a" +
	"703eb5664803f60e613557b986c11d9e" +
	"e1f8981169d98e949b1e87e9ce5528df" +
	"8ca1890dbfe6426841992d0fb054bb16"

// P5.1: all 256 bytes, as FIPS 197 prints them and by the document's words.
func TestSwap(t *testing.T) {
	table := unhex(t, publishedTable)
	for b := range 256 {
		got := aes.Swap(byte(b))
		if got != table[b] || int(got) != expectedSwap(b) {
			t.Errorf("Swap(%x) = %x, not %x", b, got, table[b])
		}
	}
}

// P5.4: Swap is a permutation of the 256 bytes.
func TestSwapIsAPermutation(t *testing.T) {
	from := map[byte]int{}
	for b := range 256 {
		got := aes.Swap(byte(b))
		if other, ok := from[got]; ok {
			t.Errorf("Swap(%x) = Swap(%x) = %x", b, other, got)
		}
		from[got] = b
	}
	if len(from) != 256 {
		t.Errorf("Swap has %d results", len(from))
	}
}

// P5.2: the round keys that FIPS 197 publishes, each of the eleven.
func TestPublishedKeys(t *testing.T) {
	for _, c := range [][]string{
		{
			"2b7e151628aed2a6abf7158809cf4f3c", "a0fafe1788542cb123a339392a6c7605",
			"f2c295f27a96b9435935807a7359f67f", "3d80477d4716fe3e1e237e446d7a883b",
			"ef44a541a8525b7fb671253bdb0bad00", "d4d1c6f87c839d87caf2b8bc11f915bc",
			"6d88a37a110b3efddbf98641ca0093fd", "4e54f70e5f5fc9f384a64fb24ea6dc4f",
			"ead27321b58dbad2312bf5607f8d292f", "ac7766f319fadc2128d12941575c006e",
			"d014f9a8c9ee2589e13f0cc8b6630ca6",
		},
		{
			"000102030405060708090a0b0c0d0e0f", "d6aa74fdd2af72fadaa678f1d6ab76fe",
			"b692cf0b643dbdf1be9bc5006830b3fe", "b6ff744ed2c2c9bf6c590cbf0469bf41",
			"47f7f7bc95353e03f96c32bcfd058dfd", "3caaa3e8a99f9deb50f3af57adf622aa",
			"5e390f7df7a69296a7553dc10aa31f6b", "14f9701ae35fe28c440adf4d4ea9c026",
			"47438735a41c65b9e016baf4aebf7ad2", "549932d1f08557681093ed9cbe2c974e",
			"13111d7fe3944a17f307a78b4d2b30c5",
		},
	} {
		for i, got := range expand(t, unhex(t, c[0])) {
			if got != unhex(t, c[i]) {
				t.Errorf("key %s: the round key %d = %x", c[0], i, got)
			}
		}
	}
}

// P5.2: many keys, word by word as the document tells them.
func TestKeys(t *testing.T) {
	table := swapTable()
	for _, key := range someKeys() {
		if got := expand(t, key); !slices.Equal(got, expectedKeys(table, key)) {
			t.Errorf("Keys(%x) = %x", key, got)
		}
	}
}

// P5.2: a key of another length has no round keys.
func TestKeysOfWrongKeys(t *testing.T) {
	for _, n := range lengths() {
		for _, key := range []string{sample(n, n), zeros(n), ones(n)} {
			if got, e := aes.Keys(key); len(got) != 0 || e != api.ErrKey {
				t.Errorf("a key of %d bytes: %d round keys, %v", n, len(got), e)
			}
		}
	}
}

// P5.3: blocks that FIPS 197 (the first two, of which the first is the
// document's example), SP 800-38A and the tests of AES publish.
func TestPublishedBlocks(t *testing.T) {
	nothing := "00000000000000000000000000000000"
	for i, c := range []struct{ key, block, want string }{
		{"000102030405060708090a0b0c0d0e0f", "00112233445566778899aabbccddeeff", "69c4e0d86a7b0430d8cdb78070b4c55a"},
		{"2b7e151628aed2a6abf7158809cf4f3c", "3243f6a8885a308d313198a2e0370734", "3925841d02dc09fbdc118597196a0b32"},
		{"2b7e151628aed2a6abf7158809cf4f3c", "6bc1bee22e409f96e93d7e117393172a", "3ad77bb40d7a3660a89ecaf32466ef97"},
		{"2b7e151628aed2a6abf7158809cf4f3c", "ae2d8a571e03ac9c9eb76fac45af8e51", "f5d3d58503b9699de785895a96fdbaaf"},
		{"2b7e151628aed2a6abf7158809cf4f3c", "30c81c46a35ce411e5fbc1191a0a52ef", "43b1cd7f598ece23881b00e3ed030688"},
		{"2b7e151628aed2a6abf7158809cf4f3c", "f69f2445df4f9b17ad2b417be66c3710", "7b0c785e27e8ad3f8223207104725dd4"},
		{nothing, nothing, "66e94bd4ef8a2c3b884cfa59ca342b2e"},
		{nothing, "f34481ec3cc627bacd5dc3fb08f273e6", "0336763e966d92595a567cc9ce537f5e"},
		{nothing, "80000000000000000000000000000000", "3ad78e726c1ec02b7ebfe92b23d9ec34"},
		{"10a58869d74be5a374cf867cfb473859", nothing, "6d251e6944b051e04eaa6fb4dbf78465"},
		{"80000000000000000000000000000000", nothing, "0edd33d3c621e546455bd8ba1418bec8"},
	} {
		if got := encrypt(t, unhex(t, c.key), unhex(t, c.block)); got != unhex(t, c.want) {
			t.Errorf("case %d: %x", i, got)
		}
	}
}

// P5.3: each bit of the key and of the block, alone and missing, and any of
// both, by the document's words and as the Go library answers them.
func TestBlock(t *testing.T) {
	table, blocks := swapTable(), someKeys()
	for i, key := range someKeys() {
		for _, block := range []string{zeros(16), ones(16), key, blocks[len(blocks)-1-i], sample(1000+i, 16)} {
			got := encrypt(t, key, block)
			if got != expectedBlock(table, key, block) || got != another(t, key, block) {
				t.Errorf("Block(%x, %x) = %x", key, block, got)
			}
		}
	}
}

// P5.3: results that become blocks and keys again, many times over.
func TestChainOfBlocks(t *testing.T) {
	key, block := sample(1, 16), sample(2, 16)
	wantKey, want := key, block
	for i := range 5000 {
		block, want = encrypt(t, key, block), another(t, wantKey, want)
		if i%10 == 9 {
			key, wantKey = xor(key, block), xor(wantKey, want)
		}
		if block != want {
			t.Fatalf("step %d: %x, not %x", i, block, want)
		}
	}
}

// P5.3: each round key has its place: the first one is added to the block, and
// the last one to the last state.
func TestRoundKeysInBlock(t *testing.T) {
	table := swapTable()
	for seed := range 20 {
		key, block := sample(seed, 16), sample(100+seed, 16)
		keys := expand(t, key)
		s := xor(block, keys[0])
		for round := 1; round <= 10; round++ {
			out := make([]byte, 16)
			for i := range out {
				out[i] = byte(table[s[(i+4*(i%4))%16]])
			}
			for c := 0; c < 16 && round < 10; c += 4 {
				in := slices.Clone(out[c : c+4])
				for r := range in {
					out[c+r] = byte(product(int(in[r]), 2)^product(int(in[(r+1)%4]), 3)) ^ in[(r+2)%4] ^ in[(r+3)%4]
				}
			}
			s = xor(string(out), keys[round])
		}
		if got := encrypt(t, key, block); got != s {
			t.Errorf("Block(%x, %x) = %x, not %x", key, block, got, s)
		}
	}
}

// P5.3: what Block refuses, and that a wrong key comes ahead of a wrong block.
func TestWrongArguments(t *testing.T) {
	right := []int{16}
	for _, k := range append(right, lengths()...) {
		for _, b := range append(right, lengths()...) {
			want := api.OK
			if k != 16 {
				want = api.ErrKey
			} else if b != 16 {
				want = api.ErrArg
			}
			got, e := aes.Block(sample(k, k), sample(b, b))
			if e != want || (got == "") != (want != api.OK) {
				t.Errorf("Block of %d and %d bytes = %d bytes, %v", k, b, len(got), e)
			}
			list, e := aes.Blocks(sample(k, k), sample(b, b))
			if e != want || (len(list) == 0) != (want != api.OK) {
				t.Errorf("Blocks of %d and %d bytes = %d blocks, %v", k, b, len(list), e)
			}
		}
	}
}

// P5.3: no block at all is no result and no error, but a wrong key is one.
func TestNoBlocks(t *testing.T) {
	for _, key := range []string{counted(), zeros(16), ones(16)} {
		if got, e := aes.Blocks(key); len(got) != 0 || e != api.OK {
			t.Errorf("no block: %d blocks, %v", len(got), e)
		}
		if got, e := aes.Blocks(key, []string{}...); len(got) != 0 || e != api.OK {
			t.Errorf("an empty list: %d blocks, %v", len(got), e)
		}
	}
	for _, n := range lengths() {
		if got, e := aes.Blocks(sample(n, n)); len(got) != 0 || e != api.ErrKey {
			t.Errorf("no block, a key of %d bytes: %d blocks, %v", n, len(got), e)
		}
	}
}

// P5.3: several blocks, equal ones among them, are what Block answers for each,
// in their order.
func TestBlocks(t *testing.T) {
	for n := 1; n <= 40; n++ {
		key := sample(n, 16)
		var blocks, want []string
		for i := range n {
			blocks = append(blocks, sample(1000*n+i%7, 16))
			want = append(want, another(t, key, blocks[i]))
			if got := encrypt(t, key, blocks[i]); got != want[i] {
				t.Errorf("Block(%x, %x) = %x", key, blocks[i], got)
			}
		}
		if got := encryptAll(t, key, blocks); !slices.Equal(got, want) {
			t.Errorf("Blocks of %d = %x, not %x", n, got, want)
		}
	}
}

// P5.3: many blocks, as they number the parts of a long text.
func TestManyBlocks(t *testing.T) {
	key := sample(1, 16)
	var blocks []string
	for i := range 3000 {
		blocks = append(blocks, zeros(12)+string([]byte{0, 0, byte(i >> 8), byte(i)}))
	}
	for i, got := range encryptAll(t, key, blocks) {
		if got != another(t, key, blocks[i]) {
			t.Fatalf("block %d: %x", i, got)
		}
	}
}

// P5.3: one block of a wrong length, wherever it is, and two of them; a wrong
// key comes ahead of it.
func TestOneWrongBlock(t *testing.T) {
	for _, count := range []int{1, 2, 3, 5, 20} {
		for at := range count {
			for _, n := range lengths() {
				var blocks []string
				for i := range count {
					blocks = append(blocks, sample(i, 16))
				}
				blocks[at] = sample(n, n)
				if got, e := aes.Blocks(counted(), blocks...); len(got) != 0 || e != api.ErrArg {
					t.Errorf("block %d of %d has %d bytes: %d blocks, %v", at, count, n, len(got), e)
				}
				if got, e := aes.Blocks(counted()[1:], blocks...); len(got) != 0 || e != api.ErrKey {
					t.Errorf("and a wrong key: %d blocks, %v", len(got), e)
				}
				blocks[0] = ""
				if got, e := aes.Blocks(counted(), blocks...); len(got) != 0 || e != api.ErrArg {
					t.Errorf("and an empty one: %d blocks, %v", len(got), e)
				}
			}
		}
	}
}

// P5.3: lengths that make up for each other are wrong all the same.
func TestBlocksAreNotJoined(t *testing.T) {
	for _, blocks := range [][]string{{zeros(15), zeros(17)}, {zeros(17), zeros(15)}, {zeros(8), zeros(8)}, {zeros(32), ""}, {"", zeros(16)}} {
		if got, e := aes.Blocks(counted(), blocks...); len(got) != 0 || e != api.ErrArg {
			t.Errorf("%d and %d bytes: %d blocks, %v", len(blocks[0]), len(blocks[1]), len(got), e)
		}
	}
	if got, e := aes.Block(zeros(15), zeros(17)); got != "" || e != api.ErrKey {
		t.Errorf("a key and a block of 15 and 17 bytes: %x, %v", got, e)
	}
}

// different are blocks that differ, many of them by a bit or two only.
func different() []string {
	var out []string
	for i := range 1000 {
		out = append(out, string([]byte{byte(i >> 8), byte(i)})+zeros(14), ones(14)+string([]byte{byte(i >> 8), byte(i)}))
	}
	for a := range 128 {
		for b := a; b < 128; b += 3 {
			out = append(out, xor(xor(sample(1, 16), single(a)), single(b)))
		}
	}
	slices.Sort(out)
	return slices.Compact(out)
}

// P5.4: under one key, different blocks have different results, each of which
// leads back to its block.
func TestDifferentBlocks(t *testing.T) {
	blocks := different()
	for _, key := range []string{zeros(16), ones(16), counted(), sample(3, 16)} {
		from := map[string]string{}
		for i, got := range encryptAll(t, key, blocks) {
			if other, ok := from[got]; ok {
				t.Errorf("key %x: %x and %x have the same result", key, other, blocks[i])
			}
			from[got] = blocks[i]
			if back(t, key, got) != blocks[i] {
				t.Errorf("key %x: %x = %x does not lead back", key, blocks[i], got)
			}
		}
	}
}

// R2: the list that is handed in, and what lies behind it, stay as they are.
func TestListIsNotChanged(t *testing.T) {
	for _, key := range []string{counted(), "short"} {
		whole := []string{sample(1, 16), sample(2, 16), sample(3, 16), "behind", ""}
		kept := slices.Clone(whole)
		aes.Blocks(key, whole[:3]...)
		aes.Blocks(key, whole[:4]...)
		if !slices.Equal(whole, kept) {
			t.Errorf("a list has changed: %x", whole)
		}
	}
}

// R2: what is answered is memory of its own, and nobody else keeps it.
func TestAnswersAreNew(t *testing.T) {
	key, blocks := sample(1, 16), []string{sample(2, 16), sample(3, 16)}
	keys := expand(t, key)
	if unsafe.StringData(keys[0]) == unsafe.StringData(key) {
		t.Error("the first round key is the memory of the key")
	}
	out := encryptAll(t, key, blocks)
	wantKeys, want := slices.Clone(keys), slices.Clone(out)
	for _, list := range [][]string{keys, out, blocks} {
		clear(list)
	}
	if got := expand(t, key); !slices.Equal(got, wantKeys) {
		t.Errorf("round keys %x, then %x", wantKeys, got)
	}
	if got := encryptAll(t, key, []string{sample(2, 16), sample(3, 16)}); !slices.Equal(got, want) {
		t.Errorf("blocks %x, then %x", want, got)
	}
}

// R3: a call leaves nothing behind that another one would see.
func TestCallsAreApart(t *testing.T) {
	key, block := sample(1, 16), sample(2, 16)
	first := encrypt(t, key, block)
	encrypt(t, sample(3, 16), sample(4, 16))
	encryptAll(t, ones(16), []string{zeros(16), ones(16)})
	expand(t, sample(5, 16))
	aes.Block(key, "x")
	aes.Block("x", block)
	aes.Blocks(key, block, "x")
	if again := encrypt(t, key, block); again != first {
		t.Errorf("%x, then %x", first, again)
	}
}

func BenchmarkBlocks(b *testing.B) {
	key, blocks := sample(1, 16), []string{}
	for i := range 1024 {
		blocks = append(blocks, sample(i, 16))
	}
	b.SetBytes(16 * int64(len(blocks)))
	for b.Loop() {
		aes.Blocks(key, blocks...)
	}
}
