package sign_test

import (
	"crypto/ed25519"
	"crypto/sha512"
	"encoding/hex"
	"math/rand"
	"strings"
	"sync"
	"testing"
	"unsafe"

	"cresset/api"
	"cresset/sign"
)

// sample is n bytes of all values, without a short period; no two seeds have
// the same.
func sample(seed, n int) string {
	b := make([]byte, n)
	rand.New(rand.NewSource(int64(seed))).Read(b)
	return string(b)
}

func unhex(t testing.TB, s string) string {
	t.Helper()
	b, err := hex.DecodeString(s)
	if err != nil {
		t.Fatal(err)
	}
	return string(b)
}

// zeros and ones are n bytes of no bits and of all bits.
func zeros(n int) string { return strings.Repeat("\x00", n) }
func ones(n int) string  { return strings.Repeat("\xff", n) }

// flipped is s with the n-th bit another one.
func flipped(s string, n int) string {
	b := []byte(s)
	b[n/8] ^= 1 << (n % 8)
	return string(b)
}

// publicOf and signatureOf are Public and Sign for a seed that is one.
func publicOf(t testing.TB, seed string) string {
	t.Helper()
	public, e := sign.Public(seed)
	if e != api.OK {
		t.Fatalf("Public(%x): %v", seed, e)
	}
	return public
}

func signatureOf(t testing.TB, seed, text string) string {
	t.Helper()
	signature, e := sign.Sign(seed, text)
	if e != api.OK {
		t.Fatalf("Sign(%x, %d bytes): %v", seed, len(text), e)
	}
	return signature
}

// checkVerify holds Verify against what it should answer.
func checkVerify(t *testing.T, what, public, text, signature string, want api.Errno) {
	t.Helper()
	if e := sign.Verify(public, text, signature); e != want {
		t.Errorf("%s: Verify(%x, %d bytes, %x): %v, not %v", what, public, len(text), signature, e, want)
	}
}

// checkKnown holds all three functions against a key and a signature that come
// from elsewhere.
func checkKnown(t *testing.T, seed, text, public, signature string) {
	t.Helper()
	if got := publicOf(t, seed); got != public {
		t.Errorf("Public(%x): %x, not %x", seed, got, public)
	}
	if got := signatureOf(t, seed, text); got != signature {
		t.Errorf("Sign(%x, %d bytes): %x, not %x", seed, len(text), got, signature)
	}
	checkVerify(t, "known", public, text, signature, api.OK)
}

// checkLibrary holds all three functions against the Go library.
func checkLibrary(t *testing.T, seed, text string) {
	t.Helper()
	key := ed25519.NewKeyFromSeed([]byte(seed))
	checkKnown(t, seed, text, string(key[32:]), string(ed25519.Sign(key, []byte(text))))
}

// P12.1, P12.3: the chapter's examples.
func TestExamples(t *testing.T) {
	public := publicOf(t, strings.Repeat("\x11", 32))
	if !strings.HasPrefix(public, "\xd0\x4a\xb2\x32") {
		t.Errorf("Public: %x", public)
	}
	checkVerify(t, "a point", public, "text", "", api.ErrSig)
	checkVerify(t, "a point", public, "", "", api.ErrSig)
	checkVerify(t, "no point", "\x02"+zeros(31), "text", "", api.ErrKey)
}

// longText is the text of 1023 bytes that RFC 8032 has.
const longText = "" +
	"08b8b2b733424243760fe426a4b54908632110a66c2f6591eabd3345e3e4eb98fa6e264bf09efe12ee50f8f54e9f77b1e355f6c50544e23fb1433ddf73be84d8" +
	"79de7c0046dc4996d9e773f4bc9efe5738829adb26c81b37c93a1b270b20329d658675fc6ea534e0810a4432826bf58c941efb65d57a338bbd2e26640f89ffbc" +
	"1a858efcb8550ee3a5e1998bd177e93a7363c344fe6b199ee5d02e82d522c4feba15452f80288a821a579116ec6dad2b3b310da903401aa62100ab5d1a36553e" +
	"06203b33890cc9b832f79ef80560ccb9a39ce767967ed628c6ad573cb116dbefefd75499da96bd68a8a97b928a8bbc103b6621fcde2beca1231d206be6cd9ec7" +
	"aff6f6c94fcd7204ed3455c68c83f4a41da4af2b74ef5c53f1d8ac70bdcb7ed185ce81bd84359d44254d95629e9855a94a7c1958d1f8ada5d0532ed8a5aa3fb2" +
	"d17ba70eb6248e594e1a2297acbbb39d502f1a8c6eb6f1ce22b3de1a1f40cc24554119a831a9aad6079cad88425de6bde1a9187ebb6092cf67bf2b13fd65f270" +
	"88d78b7e883c8759d2c4f5c65adb7553878ad575f9fad878e80a0c9ba63bcbcc2732e69485bbc9c90bfbd62481d9089beccf80cfe2df16a2cf65bd92dd597b07" +
	"07e0917af48bbb75fed413d238f5555a7a569d80c3414a8d0859dc65a46128bab27af87a71314f318c782b23ebfe808b82b0ce26401d2e22f04d83d1255dc51a" +
	"ddd3b75a2b1ae0784504df543af8969be3ea7082ff7fc9888c144da2af58429ec96031dbcad3dad9af0dcbaaaf268cb8fcffead94f3c7ca495e056a9b47acdb7" +
	"51fb73e666c6c655ade8297297d07ad1ba5e43f1bca32301651339e22904cc8c42f58c30c04aafdb038dda0847dd988dcda6f3bfd15c4b4c4525004aa06eeff8" +
	"ca61783aacec57fb3d1f92b0fe2fd1a85f6724517b65e614ad6808d6f6ee34dff7310fdc82aebfd904b01e1dc54b2927094b2db68d6f903b68401adebf5a7e08" +
	"d78ff4ef5d63653a65040cf9bfd4aca7984a74d37145986780fc0b16ac451649de6188a7dbdf191f64b5fc5e2ab47b57f7f7276cd419c17a3ca8e1b939ae49e4" +
	"88acba6b965610b5480109c8b17b80e1b7b750dfc7598d5d5011fd2dcc5600a32ef5b52a1ecc820e308aa342721aac0943bf6686b64b2579376504ccc493d97e" +
	"6aed3fb0f9cd71a43dd497f01f17c0e2cb3797aa2a2f256656168e6c496afc5fb93246f6b1116398a346f1a641f3b041e989f7914f90cc2c7fff357876e506b5" +
	"0d334ba77c225bc307ba537152f3f1610e4eafe595f6d9d90d11faa933a15ef1369546868a7f3a45a96768d40fd9d03412c091c6315cf4fde7cb68606937380d" +
	"b2eaaa707b4c4185c32eddcdd306705e4dc1ffc872eeee475a64dfac86aba41c0618983f8741c5ef68d3a101e8a3b8cac60c905c15fc910840b94c00a0b9d0"

// P12.1, P12.2, P12.3: what RFC 8032 publishes in 7.1.
func TestPublished(t *testing.T) {
	abc := sha512.Sum512([]byte("abc"))
	for _, c := range []struct{ seed, public, text, signature string }{
		{"9d61b19deffd5a60ba844af492ec2cc44449c5697b326919703bac031cae7f60", "d75a980182b10ab7d54bfed3c964073a0ee172f3daa62325af021a68f707511a", "", "e5564300c360ac729086e2cc806e828a84877f1eb8e5d974d873e065224901555fb8821590a33bacc61e39701cf9b46bd25bf5f0595bbe24655141438e7a100b"},
		{"4ccd089b28ff96da9db6c346ec114e0f5b8a319f35aba624da8cf6ed4fb8a6fb", "3d4017c3e843895a92b70aa74d1b7ebc9c982ccf2ec4968cc0cd55f12af4660c", "72", "92a009a9f0d4cab8720e820b5f642540a2b27b5416503f8fb3762223ebdb69da085ac1e43e15996e458f3613d0f11d8c387b2eaeb4302aeeb00d291612bb0c00"},
		{"c5aa8df43f9f837bedb7442f31dcb7b166d38535076f094b85ce3a2e0b4458f7", "fc51cd8e6218a1a38da47ed00230f0580816ed13ba3303ac5deb911548908025", "af82", "6291d657deec24024827e69c3abe01a30ce548a284743a445e3680d7db5ac3ac18ff9b538d16f290ae67f760984dc6594a7c15e9716ed28dc027beceea1ec40a"},
		{"f5e5767cf153319517630f226876b86c8160cc583bc013744c6bf255f5cc0ee5", "278117fc144c72340f67d0f2316e8386ceffbf2b2428c9c51fef7c597f1d426e", longText, "0aab4c900501b3e24d7cdf4663326a3a87df5e4843b2cbdb67cbf6e460fec350aa5371b1508f9f4528ecea23c436d94b5e8fcd4f681e30a6ac00a9704a188a03"},
		{"833fe62409237b9d62ec77587520911e9a759cec1d19755b7da901b96dca3d42", "ec172b93ad5e563bf4932c70e1245034c35467ef2efd4d64ebf819683467e2bf", hex.EncodeToString(abc[:]), "dc2a4459e7369633a52b1bf277839a00201009a3efbf3ecb69bea2186c26b58909351fc9ac90b3ecfdfbc7c66431e0303dca179c138ac17ad9bef1177331a704"},
	} {
		text := unhex(t, c.text)
		checkKnown(t, unhex(t, c.seed), text, unhex(t, c.public), unhex(t, c.signature))
		checkVerify(t, "of more", unhex(t, c.public), text+"\x00", unhex(t, c.signature), api.ErrSig)
	}
}

// P12.1, P12.2, P12.3: seeds of no bits and of all bits, written out. The
// results were worked out in Python, by a law of the curve that divides, and
// OpenSSL has the same.
func TestSeedsAtTheEdges(t *testing.T) {
	for _, c := range []struct{ seed, public, none, letter string }{
		{zeros(32), "3b6a27bcceb6a42d62a3a8d02a6f0d73653215771de243a63ac048a18b59da29", "8f895b3cafe2c9506039d0e2a66382568004674fe8d237785092e40d6aaf483e4fc60168705f31f101596138ce21aa357c0d32a064f423dc3ee4aa3abf53f803", "7750d5ddc1329cdbe0b5ed757f00c8ea35ab4e1720d0acc7d6369451beef9d1475e6b655200c4c92efb7037c0c26915d2b2fba09a9336d20751507c3e38f2207"},
		{ones(32), "76a1592044a6e4f511265bca73a604d90b0529d1df602be30a19a9257660d1f5", "ee00ac6e44a6a43bc3a701c137b467473e32a4bed47d3293fe6186fe9868c7d254024f65ffa552487bdbd34aaccd1e82c1a20a191d183dbb64c3523cccd89c0f", "56dcf491e8933a9c0148f4dd02d1ca63440d2c31b717bddb9072034a7b50838cd286d047cf4f7b765ada803add3c1b19802e1a6579863606bc54c609dda61c02"},
	} {
		checkKnown(t, c.seed, "", unhex(t, c.public), unhex(t, c.none))
		checkKnown(t, c.seed, "a", unhex(t, c.public), unhex(t, c.letter))
		checkLibrary(t, c.seed, sample(1, 100))
	}
}

// P12.1, P12.2: seeds of any length but 32 bytes are refused, also those whose
// first or last 32 bytes are one.
func TestWrongLengthsOfSeeds(t *testing.T) {
	lengths := []int{95, 96, 97, 127, 128, 255, 256, 256 + 32, 65536, 65536 + 32}
	for n := range 68 {
		lengths = append(lengths, n)
	}
	for _, n := range lengths {
		if n == 32 {
			continue
		}
		for _, seed := range []string{zeros(n), ones(n), sample(n, n), strings.Repeat("\x11", n)} {
			if public, e := sign.Public(seed); public != "" || e != api.ErrKey {
				t.Errorf("Public of %d bytes: %x, %v", n, public, e)
			}
			for _, text := range []string{"", "text", sample(1, 200)} {
				if signature, e := sign.Sign(seed, text); signature != "" || e != api.ErrKey {
					t.Errorf("Sign with %d bytes: %x, %v", n, signature, e)
				}
			}
		}
	}
}

// P12.1, P12.2, P12.3: seeds without a pattern. Each of the bits that a scalar
// has cleared or set is, in some of the digests, as the scalar has it, and
// otherwise in others.
func TestSeeds(t *testing.T) {
	seen := map[[2]int]bool{}
	for i := range 100 {
		seed := sample(i, 32)
		digest := sha512.Sum512([]byte(seed))
		for _, n := range []int{0, 1, 2, 254, 255} {
			seen[[2]int{n, int(digest[n/8] >> (n % 8) & 1)}] = true
		}
		checkLibrary(t, seed, sample(1000+i, i))
	}
	if len(seen) != 10 {
		t.Errorf("%d of 10 bits", len(seen))
	}
}

// P12.1, P12.2: every bit of a seed counts.
func TestEveryBitOfSeed(t *testing.T) {
	for n := range 256 {
		checkLibrary(t, flipped(sample(1, 32), n), "text")
	}
}

// P12.2, P12.3: texts of all lengths up to some blocks of the digest. 32 bytes
// of the salt, or 64 of two keys, go first, and at least 17 bytes of padding
// follow, so that a block is full at 47, 63, 79 and 95 bytes, and from there
// every 128 bytes.
func TestLengthsOfTexts(t *testing.T) {
	seed := sample(1, 32)
	for n := range 300 {
		checkLibrary(t, seed, sample(n, n))
	}
	for _, n := range []int{0, 1, 47, 48, 63, 64, 65, 79, 80, 95, 96, 97} {
		for _, m := range []int{n, n + 128, n + 256} {
			checkLibrary(t, zeros(32), zeros(m))
			checkLibrary(t, ones(32), ones(m))
		}
	}
}

// P12.2, P12.3: long texts, the longest message and record among them, and
// what an end of them that is lost, or another last byte, does.
func TestLongTexts(t *testing.T) {
	for i, n := range []int{1000, 4095, api.MaxText - 1, api.MaxText, api.MaxText + 1, api.MaxPlain, 65535, 65536, 65537, 1 << 20, 3_000_001} {
		seed, text := sample(i, 32), sample(100+i, n)
		checkLibrary(t, seed, text)
		public, signature := publicOf(t, seed), signatureOf(t, seed, text)
		checkVerify(t, "of less", public, text[:n-1], signature, api.ErrSig)
		checkVerify(t, "of another end", public, flipped(text, 8*n-1), signature, api.ErrSig)
		checkVerify(t, "of another beginning", public, flipped(text, 0), signature, api.ErrSig)
	}
}

// P12.2, P12.3: texts that are not letters, and those that are keys or
// signatures themselves.
func TestTextsOfAnyKind(t *testing.T) {
	seed := sample(1, 32)
	public := publicOf(t, seed)
	signature := signatureOf(t, seed, "")
	for _, text := range []string{"\x00", "\xff", "\x00\x00", "\xc3\x28", "é", "a\nb", seed, public, signature, signature[:32] + public, public + signature, zeros(128), ones(128)} {
		checkLibrary(t, seed, text)
	}
}

// P12.4: a signature has 64 bytes, and a public key 32.
func TestSizes(t *testing.T) {
	for i := range 60 {
		seed := sample(i, 32)
		if public := publicOf(t, seed); len(public) != 32 {
			t.Errorf("Public(%x): %d bytes", seed, len(public))
		}
		if signature := signatureOf(t, seed, sample(i, 5*i)); len(signature) != 64 {
			t.Errorf("Sign(%x): %d bytes", seed, len(signature))
		}
	}
}

// R2: the arguments and what lies behind them stay as they are, and an answer
// is memory of its own.
func TestNothingIsShared(t *testing.T) {
	before := sample(1, 32) + sample(2, 300)
	memory := []byte(before)
	seed, text := unsafe.String(&memory[0], 32), unsafe.String(&memory[40], 200)
	public, again := publicOf(t, seed), publicOf(t, seed)
	signature, twice := signatureOf(t, seed, text), signatureOf(t, seed, text)
	checkVerify(t, "of memory", public, text, signature, api.OK)
	if string(memory) != before {
		t.Error("an argument has changed")
	}
	if unsafe.StringData(public) == unsafe.StringData(again) || unsafe.StringData(signature) == unsafe.StringData(twice) {
		t.Error("two answers share memory")
	}
	clear(memory)
	checkKnown(t, before[:32], before[40:240], public, signature)
}

// R2: the same for the arguments of Verify, be they right or not.
func TestVerifyChangesNothing(t *testing.T) {
	text := sample(2, 50)
	before := publicOf(t, sample(1, 32)) + text + signatureOf(t, sample(1, 32), text) + sample(3, 100)
	memory := []byte(before)
	at := func(from, n int) string { return unsafe.String(&memory[from], n) }
	checkVerify(t, "right", at(0, 32), at(32, 50), at(82, 64), api.OK)
	checkVerify(t, "of a longer text", at(0, 32), at(32, 51), at(82, 64), api.ErrSig)
	checkVerify(t, "too long", at(0, 32), at(32, 50), at(82, 65), api.ErrSig)
	checkVerify(t, "too short", at(0, 31), at(32, 50), at(82, 64), api.ErrKey)
	if string(memory) != before {
		t.Error("an argument has changed")
	}
}

// R3: a call leaves nothing behind that another one would see, be it ahead of
// it or at the same time.
func TestCallsAreApart(t *testing.T) {
	answer := func(i int) string {
		seed, text := sample(i, 32), sample(10+i, 60*i)
		public, _ := sign.Public(seed)
		signature, _ := sign.Sign(seed, text)
		return public + signature + sign.Verify(public, text, signature).Error() + sign.Verify(public, text+"x", signature).Error()
	}
	want := make([]string, 8)
	for i := range want {
		want[i] = answer(i)
		sign.Public("short")
		sign.Sign("short", "text")
		sign.Verify("short", "text", "short")
		sign.Verify(zeros(32), "text", ones(64))
	}
	var all sync.WaitGroup
	for i := range want {
		all.Go(func() {
			for range 10 {
				if got := answer(i); got != want[i] {
					t.Errorf("%x, not %x", got, want[i])
				}
			}
		})
	}
	all.Wait()
}

func BenchmarkPublic(b *testing.B) {
	seed := sample(1, 32)
	for b.Loop() {
		publicOf(b, seed)
	}
}

func BenchmarkSign(b *testing.B) {
	seed, text := sample(1, 32), sample(2, 100)
	for b.Loop() {
		signatureOf(b, seed, text)
	}
}

func BenchmarkVerify(b *testing.B) {
	seed, text := sample(1, 32), sample(2, 100)
	public, signature := publicOf(b, seed), signatureOf(b, seed, text)
	for b.Loop() {
		if e := sign.Verify(public, text, signature); e != api.OK {
			b.Fatal(e)
		}
	}
}
