package cert_test

import (
	"crypto/ed25519"
	"crypto/x509"
	"encoding/hex"
	"math"
	"math/big"
	"math/rand"
	"strings"
	"sync"
	"testing"
	"unsafe"

	"cresset/api"
	"cresset/cert"
)

// sample is n bytes of all values, without a short period; no two seeds have
// the same.
func sample(seed, n int) string {
	b := make([]byte, n)
	rand.New(rand.NewSource(int64(seed))).Read(b)
	return string(b)
}

func unhex(t testing.TB, s string) string {
	t.Helper()
	b, err := hex.DecodeString(s)
	if err != nil {
		t.Fatal(err)
	}
	return string(b)
}

// flipped is s with the n-th bit another one.
func flipped(s string, n int) string {
	b := []byte(s)
	b[n/8] ^= 1 << (n % 8)
	return string(b)
}

// keyOf and signatureOf are a seed's public key and signature, of the Go
// library.
func keyOf(seed string) string {
	return string(ed25519.NewKeyFromSeed([]byte(seed))[32:])
}

func signatureOf(seed, text string) string {
	return string(ed25519.Sign(ed25519.NewKeyFromSeed([]byte(seed)), []byte(text)))
}

// node is an element: it has a body, with parts behind it. One that is raw is
// these bytes instead.
type node struct {
	tag   byte
	body  string
	parts []*node
	raw   string
}

func leaf(tag byte, body string) *node    { return &node{tag: tag, body: body} }
func list(tag byte, parts ...*node) *node { return &node{tag: tag, parts: parts} }
func (n *node) add(parts ...*node)        { n.parts = append(n.parts, parts...) }

// at is the part of a part, and so on, of these places.
func (n *node) at(path ...int) *node {
	for _, i := range path {
		n = n.parts[i]
	}
	return n
}

// bytes is an element of chapter 13, written apart from package der.
func (n *node) bytes() string {
	if n.raw != "" {
		return n.raw
	}
	body := n.body
	for _, p := range n.parts {
		body += p.bytes()
	}
	head := []byte{n.tag}
	switch size := len(body); {
	case size < 128:
		head = append(head, byte(size))
	case size < 256:
		head = append(head, 129, byte(size))
	default:
		head = append(head, 130, byte(size>>8), byte(size))
	}
	return string(head) + body
}

// integer is the body of an integer in its shortest form.
func integer(n int) string {
	if n >= 0 {
		b := big.NewInt(int64(n)).Bytes()
		if len(b) == 0 || b[0] >= 128 {
			return "\x00" + string(b)
		}
		return string(b)
	}
	size := uint(1)
	for n < -1<<(8*size-1) {
		size++
	}
	return string(new(big.Int).Add(big.NewInt(int64(n)), new(big.Int).Lsh(big.NewInt(1), 8*size)).Bytes())
}

// A and N are what the chapter calls so.
func algorithmNode() *node { return list(48, leaf(6, "\x2b\x65\x70")) }

func nameNode(name string) *node {
	return list(48, list(49, list(48, leaf(6, "\x55\x04\x03"), leaf(12, name))))
}

// Where the parts of a draft lie.
var (
	serialAt     = []int{0, 0}
	issuerAt     = []int{0, 2, 0, 0, 1}
	timesAt      = []int{0, 3}
	fromAt       = []int{0, 3, 0}
	toAt         = []int{0, 3, 1}
	subjectAt    = []int{0, 4, 0, 0, 1}
	keyAt        = []int{0, 5, 1}
	signatureAt  = []int{2}
	algorithmsAt = [][]int{{0, 1, 0}, {0, 5, 0, 0}, {1, 0}}
	namesAt      = [][]int{{0, 2, 0, 0, 0}, {0, 4, 0, 0, 0}}
)

// draft is a certificate, not yet signed. What it says may be wrong.
func draft(c api.Cert) *node {
	times := list(48, leaf(24, libraryTime(c.From)), leaf(24, libraryTime(c.To)))
	key := list(48, algorithmNode(), leaf(3, "\x00"+c.Key))
	inner := list(48, leaf(2, integer(c.Serial)), algorithmNode(), nameNode(c.Name), times, nameNode(c.Name), key)
	return list(48, inner, algorithmNode(), leaf(3, "\x00"+strings.Repeat("\x00", 64)))
}

// sign puts the signature of a draft's inner part into it.
func (n *node) sign(seed string) *node {
	n.at(signatureAt...).body = "\x00" + signatureOf(seed, n.at(0).bytes())
	return n
}

// usual is a certificate with its seed.
func usual() (api.Cert, string) {
	seed := sample(1, 32)
	return api.Cert{Serial: 1234, Name: "sender", From: 951782400, To: 1763251200, Key: keyOf(seed)}, seed
}

// usualData is the certificate of usual.
func usualData() string {
	c, seed := usual()
	return draft(c).sign(seed).bytes()
}

// made is Make of what may be.
func made(t testing.TB, c api.Cert, seed string) string {
	t.Helper()
	data, e := cert.Make(c, seed)
	if e != api.OK {
		t.Fatalf("Make(%+v): %v", c, e)
	}
	return data
}

// checkMade holds Make against the chapter's words, and Read against Make, with
// the key and without it.
func checkMade(t *testing.T, c api.Cert, seed string) {
	t.Helper()
	c.Key = keyOf(seed)
	want := draft(c).sign(seed).bytes()
	given := c
	for _, given.Key = range []string{"", c.Key} {
		if data, e := cert.Make(given, seed); data != want || e != api.OK {
			t.Errorf("Make(%+v): %x and %v, not %x", given, data, e, want)
		}
	}
	if got, e := cert.Read(want); got != c || e != api.OK {
		t.Errorf("Read(%x): %+v and %v, not %+v", want, got, e, c)
	}
}

// checkNotMade holds Make against the error that it should answer.
func checkNotMade(t *testing.T, c api.Cert, seed string, want api.Errno) {
	t.Helper()
	if data, e := cert.Make(c, seed); data != "" || e != want {
		t.Errorf("Make(%+v, %d bytes): %x and %v, not %v", c, len(seed), data, e, want)
	}
}

// knownCert is a certificate that comes from elsewhere.
type knownCert struct {
	c          api.Cert
	seed, data string
}

// known are certificates that were worked out in Python and that OpenSSL reads.
func known() []knownCert {
	return []knownCert{
		{api.Cert{Serial: 7, Name: "sender", From: 0, To: 951782400}, strings.Repeat("11", 32), "3081cd308180020107300506032b65703011310f300d06035504030c0673656e6465723022180f31393730303130313030303030305a180f32303030303232393030303030305a3011310f300d06035504030c0673656e646572302a300506032b6570032100d04ab232742bb4ab3a1368bd4615e4e6d0224ab71a016baf8520a332c9778737300506032b65700341000f85a97b96350a97c309eab7f43a8cce50b09166094ed03e2a947269b4016cb2007e71f016bef1ab6d5a21807c1618ce08b9829c47df1cea14438ad46e190c09"},
		{api.Cert{Serial: 1, Name: " ", From: 0, To: 0}, strings.Repeat("00", 32), "3081c23076020101300506032b6570300c310a300806035504030c01203022180f31393730303130313030303030305a180f31393730303130313030303030305a300c310a300806035504030c0120302a300506032b65700321003b6a27bcceb6a42d62a3a8d02a6f0d73653215771de243a63ac048a18b59da29300506032b657003410003ef7c034f9046030014316865d96b70cfd023049427db3847fed747c75429fa7d44e67e2b50848aaa0ff7dee23fae360f8887a30b889cd6f3cb41551a818404"},
		{api.Cert{Serial: math.MaxInt64, Name: "_`abcdefghijklmnopqrstuvwxyz{|}~", From: 951782399, To: lastTime}, "000102030405060708090a0b0c0d0e0f101112131415161718191a1b1c1d1e1f", "308201083081bb02087fffffffffffffff300506032b6570302b3129302706035504030c205f606162636465666768696a6b6c6d6e6f707172737475767778797a7b7c7d7e3022180f32303030303232383233353935395a180f39393939313233313233353935395a302b3129302706035504030c205f606162636465666768696a6b6c6d6e6f707172737475767778797a7b7c7d7e302a300506032b657003210003a107bff3ce10be1d70dd18e74bc09967e4d6309ba50d5f1ddc8664125531b8300506032b65700341003ffd69be951ffa2a5729b72249e91557e5f853882e9a3f8b8189eb325f493b85f7182ea0748cfb62aefe448e9ea94ae8c96cf3a8bad28d6b03ebcf2479033802"},
		{api.Cert{Serial: 1, Name: "collector", From: 0, To: 1000}, strings.Repeat("63", 32), "3081d3308186020101300506032b657030143112301006035504030c09636f6c6c6563746f723022180f31393730303130313030303030305a180f31393730303130313030313634305a30143112301006035504030c09636f6c6c6563746f72302a300506032b6570032100a7f6dfaf8f38b89ba8ce649b594f91e4d01fdc57f9c9493df43b5e50a9987367300506032b65700341000f36bb64a5b003ef83289215a212cf51534ac3ba95ed9641abcaec9f9f323f82057881f02bfb132904f9974a7617c719add00f0e46e463c6e66b4df75c394a03"},
	}
}

// P14.2, P14.3, P14.4: certificates that come from elsewhere.
func TestKnown(t *testing.T) {
	for _, k := range known() {
		seed, want := unhex(t, k.seed), unhex(t, k.data)
		if data, e := cert.Make(k.c, seed); data != want || e != api.OK {
			t.Errorf("Make(%+v): %x and %v, not %x", k.c, data, e, want)
		}
		k.c.Key = keyOf(seed)
		if c, e := cert.Read(want); c != k.c || e != api.OK {
			t.Errorf("Read(%x): %+v and %v, not %+v", want, c, e, k.c)
		}
		checkMade(t, k.c, seed)
	}
}

// P14.2: serial numbers from 1 on, and others.
func TestSerialNumbers(t *testing.T) {
	c, seed := usual()
	for _, c.Serial = range []int{1, 2, 126, 127, 128, 129, 255, 256, 257, 32767, 32768, 65535, 65536, 1<<23 - 1, 1 << 23, 1<<31 - 1, 1 << 31, 1<<32 - 1, 1 << 32, 1<<39 - 1, 1 << 39, 1<<47 - 1, 1 << 47, 1<<55 - 1, 1 << 55, math.MaxInt - 1, math.MaxInt} {
		checkMade(t, c, seed)
	}
	for _, c.Serial = range []int{0, -1, -2, -127, -128, -129, -256, -1 << 31, -1 << 32, math.MinInt + 1, math.MinInt} {
		checkNotMade(t, c, seed, api.ErrArg)
	}
}

// P14.2: names of each length, up to some that are too long.
func TestLengthsOfNames(t *testing.T) {
	c, seed := usual()
	for n := range 300 {
		c.Name = strings.Repeat("name", n)[:n]
		switch {
		case n >= 1 && n <= 32:
			checkMade(t, c, seed)
		default:
			checkNotMade(t, c, seed, api.ErrArg)
		}
	}
	for _, n := range []int{1000, 65535, 65536, 65536 + 32, 1 << 20} {
		c.Name = strings.Repeat("n", n)
		checkNotMade(t, c, seed, api.ErrArg)
	}
}

// P14.2: each byte in a name, alone and at all places of the longest one.
func TestBytesOfNames(t *testing.T) {
	c, seed := usual()
	for b := range 256 {
		names := []string{string([]byte{byte(b)})}
		for _, before := range []int{0, 1, 16, 31} {
			names = append(names, strings.Repeat("n", before)+names[0]+strings.Repeat("n", 31-before))
		}
		for i, name := range names {
			c.Name = name
			switch {
			case b < 32 || b > 126:
				checkNotMade(t, c, seed, api.ErrArg)
			case i == b%len(names):
				checkMade(t, c, seed)
			}
		}
	}
	for _, c.Name = range []string{"\x1f", "\x7f", "a\x7f", "\x1fa", "\x00", "é", "a é", "\xc3", "日本", "a\tb", "a\n"} {
		checkNotMade(t, c, seed, api.ErrArg)
	}
	for _, c.Name = range []string{" ", "~", "  ", "~~", " ~", "a b", `"\/*?`, "CN=x", "0"} {
		checkMade(t, c, seed)
	}
}

// P14.2: times that are none, times in both orders, and equal ones.
func TestTimesOfCertificates(t *testing.T) {
	c, seed := usual()
	for _, p := range [][2]int{{0, 0}, {0, 1}, {1, 1}, {1, 2}, {951782399, 951782400}, {951782400, 951782400}, {0, lastTime}, {lastTime - 1, lastTime}, {lastTime, lastTime}, {1 << 31, 1<<31 + 1}} {
		c.From, c.To = p[0], p[1]
		checkMade(t, c, seed)
	}
	for _, p := range [][2]int{
		{1, 0}, {2, 1}, {951782400, 951782399}, {lastTime, lastTime - 1}, {lastTime, 0}, {1 << 31, 1<<31 - 1},
		{-1, 0}, {-1, -1}, {-2, -1}, {-1, lastTime}, {math.MinInt, 0}, {math.MinInt, math.MaxInt}, {math.MinInt, math.MinInt}, {0, -1}, {0, math.MinInt},
		{0, lastTime + 1}, {lastTime, lastTime + 1}, {lastTime + 1, lastTime + 1}, {lastTime + 1, lastTime + 2}, {lastTime + 1, 0}, {lastTime + 1, lastTime}, {0, math.MaxInt}, {math.MaxInt, math.MaxInt},
	} {
		c.From, c.To = p[0], p[1]
		checkNotMade(t, c, seed, api.ErrArg)
	}
}

// P14.2: seeds of any length but 32 bytes, with a key and without one.
func TestSeeds(t *testing.T) {
	c, seed := usual()
	for n := range 130 {
		s := (seed + sample(2, 200))[:n]
		for _, c.Key = range []string{"", keyOf(seed), strings.Repeat("\x00", 32), s} {
			if n != 32 {
				checkNotMade(t, c, s, api.ErrKey)
			}
		}
	}
	for _, s := range []string{seed[1:], seed[:31], seed + "\x00", "\x00" + seed, seed + seed, strings.Repeat("\x00", 31), strings.Repeat("\x00", 33)} {
		checkNotMade(t, c, s, api.ErrKey)
	}
	for _, s := range []string{strings.Repeat("\x00", 32), strings.Repeat("\xff", 32), sample(3, 32), flipped(seed, 255)} {
		checkMade(t, c, s)
	}
}

// P14.2: keys that are not the seed's, one bit of which is wrong, or which are
// too short or too long.
func TestKeys(t *testing.T) {
	c, seed := usual()
	key := keyOf(seed)
	for n := range 256 {
		c.Key = flipped(key, n)
		checkNotMade(t, c, seed, api.ErrKey)
	}
	for n := 1; n < 80; n++ {
		for _, c.Key = range []string{strings.Repeat("\x00", n), sample(n, n), (key + key + key)[:n]} {
			if c.Key != key {
				checkNotMade(t, c, seed, api.ErrKey)
			}
		}
	}
	for _, c.Key = range []string{key[1:], key[:31], key + "\x00", "\x00" + key, seed, keyOf(sample(2, 32)), " "} {
		checkNotMade(t, c, seed, api.ErrKey)
	}
}

// P14.2: where both the fields and the seed or the key are wrong, the fields'
// error is answered.
func TestFieldsGoFirst(t *testing.T) {
	right, seed := usual()
	wrong := []func(c *api.Cert){
		func(c *api.Cert) { c.Serial = 0 }, func(c *api.Cert) { c.Serial = -5 },
		func(c *api.Cert) { c.Name = "" }, func(c *api.Cert) { c.Name = strings.Repeat("n", 33) }, func(c *api.Cert) { c.Name = "a\x7f" },
		func(c *api.Cert) { c.From = -1 }, func(c *api.Cert) { c.To = lastTime + 1 }, func(c *api.Cert) { c.From = c.To + 1 },
	}
	for _, key := range []string{"", right.Key, "x", flipped(right.Key, 7), right.Key[:31]} {
		for _, s := range []string{"", seed, seed[:31], seed + "x", sample(2, 32)} {
			for _, f := range wrong {
				c := right
				c.Key = key
				f(&c)
				checkNotMade(t, c, s, api.ErrArg)
			}
			c := right
			c.Key = key
			if len(s) != 32 || key != "" && key != keyOf(s) {
				checkNotMade(t, c, s, api.ErrKey)
			}
		}
	}
}

// P14.2, P14.4: certificates without a pattern.
func TestMade(t *testing.T) {
	source := rand.New(rand.NewSource(1))
	for i := range 300 {
		name := make([]byte, 1+source.Intn(32))
		for j := range name {
			name[j] = byte(32 + source.Intn(95))
		}
		from := source.Intn(lastTime+1) >> source.Intn(38)
		c := api.Cert{Serial: max(1, source.Int()>>source.Intn(63)), Name: string(name), From: from, To: from + source.Intn(lastTime+1-from)}
		checkMade(t, c, sample(i, 32))
	}
}

// P14.2: what Make answers is a certificate for the Go library as well.
func TestLibraryReads(t *testing.T) {
	for i := range 50 {
		c := api.Cert{Serial: 1 + i*i*i*i*i, Name: strings.Repeat("nAmE-0 ", 5)[i%7 : 8+i%7+i%20], From: i * 1234567, To: i*1234567 + i*i*7654321}
		seed := sample(i, 32)
		x, err := x509.ParseCertificate([]byte(made(t, c, seed)))
		if err != nil {
			t.Fatalf("%+v: %v", c, err)
		}
		if !x.SerialNumber.IsInt64() || x.SerialNumber.Int64() != int64(c.Serial) || x.Subject.CommonName != c.Name || x.Issuer.CommonName != c.Name || x.NotBefore.Unix() != int64(c.From) || x.NotAfter.Unix() != int64(c.To) {
			t.Errorf("%+v: the library reads %v, %v, %v, %v to %v", c, x.SerialNumber, x.Subject, x.Issuer, x.NotBefore, x.NotAfter)
		}
		if key, is := x.PublicKey.(ed25519.PublicKey); !is || string(key) != keyOf(seed) {
			t.Errorf("%+v: the library reads the key %x", c, x.PublicKey)
		}
		if err := x.CheckSignature(x509.PureEd25519, x.RawTBSCertificate, x.Signature); err != nil {
			t.Errorf("%+v: %v", c, err)
		}
	}
}

// R2: the arguments stay as they are, and an answer is memory of its own.
func TestNothingIsShared(t *testing.T) {
	c, seed := usual()
	before := c.Name + c.Key + seed + "behind"
	memory := []byte(before)
	given := c
	given.Name, given.Key = unsafe.String(&memory[0], 6), unsafe.String(&memory[6], 32)
	data := made(t, given, unsafe.String(&memory[38], 32))
	if string(memory) != before {
		t.Error("an argument of Make has changed")
	}
	clear(memory)
	if data != usualData() {
		t.Errorf("Make: %x", data)
	}
	memory = []byte(data + "behind")
	text := unsafe.String(&memory[0], len(data))
	own := cert.Print(text)
	got, e := cert.Read(text)
	allowed := cert.Allow(text, c.From, own)
	if string(memory) != data+"behind" {
		t.Error("an argument has changed")
	}
	clear(memory)
	if got != c || e != api.OK || allowed != api.OK || own != cert.Print(data) {
		t.Errorf("Read: %+v, %v; Allow: %v; Print: %x", got, e, allowed, own)
	}
}

// R3: a call leaves nothing behind that another one would see, be it ahead of
// it or at the same time.
func TestCallsAreApart(t *testing.T) {
	answer := func(i int) string {
		c := api.Cert{Serial: 1 + i, Name: sample(i, 1) + "name", From: 1000 * i, To: 2000 * i}
		data, e1 := cert.Make(c, sample(i, 32))
		got, e2 := cert.Read(data)
		text, e3 := cert.Time(got.To - 3000)
		e4 := cert.Allow(data, got.From, cert.Print(data), text)
		return data + got.Name + got.Key + text + e1.Error() + e2.Error() + e3.Error() + e4.Error()
	}
	want := make([]string, 8)
	for i := range want {
		want[i] = answer(i)
		cert.Make(api.Cert{}, "")
		cert.Read(usualData() + "x")
		cert.Allow(usualData(), -1, "x")
		cert.Time(i)
	}
	var all sync.WaitGroup
	for i := range want {
		all.Go(func() {
			for range 20 {
				if got := answer(i); got != want[i] {
					t.Errorf("%x, not %x", got, want[i])
				}
			}
		})
	}
	all.Wait()
}

func BenchmarkMake(b *testing.B) {
	c, seed := usual()
	for b.Loop() {
		made(b, c, seed)
	}
}
