package shake_test

import (
	"encoding/hex"
	"math"
	"math/rand"
	"slices"
	"strings"
	"sync"
	"testing"

	"cresset/api"
	"cresset/cert"
	"cresset/hello"
	"cresset/ladder"
	"cresset/shake"
	"cresset/sign"
)

const (
	gcmSuite    = 4865
	chachaSuite = 4867
	firstTime   = 951782400 // of all certificates
	lastTime    = 1763251200
	usualTime   = 1500000000
)

// sample is n bytes of all values, without a short period; no two seeds have
// the same.
func sample(seed, n int) string {
	b := make([]byte, n)
	rand.New(rand.NewSource(int64(seed))).Read(b)
	return string(b)
}

func unhex(t testing.TB, s string) string {
	t.Helper()
	b, err := hex.DecodeString(s)
	if err != nil {
		t.Fatal(err)
	}
	return string(b)
}

func zeros(n int) string { return strings.Repeat("\x00", n) }

// flipped is s with the n-th bit another one.
func flipped(s string, n int) string {
	b := []byte(s)
	b[n/8] ^= 1 << (n % 8)
	return string(b)
}

// owner is one who has a certificate.
type owner struct{ seed, certificate, print string }

func newOwner(serial int, name string, from, to int) owner {
	seed := sample(9000+serial, 32)
	data, e := cert.Make(api.Cert{Serial: serial, Name: name, From: from, To: to}, seed)
	if e != api.OK {
		panic(e)
	}
	return owner{seed, data, cert.Print(data)}
}

// The owners of most tests, who are made once.
var (
	sender    = sync.OnceValue(func() owner { return newOwner(1, "sender", firstTime, lastTime) })
	collector = sync.OnceValue(func() owner { return newOwner(2, "collector", firstTime, lastTime) })
	stranger  = sync.OnceValue(func() owner { return newOwner(3, "stranger", firstTime, lastTime) })
)

// configOf is what the server, or the client, of most tests has.
func configOf(server bool) shake.Config {
	own, other, seed := sender(), collector(), 100
	if server {
		own, other, seed = other, own, 200
	}
	return shake.Config{
		Seed: own.seed, Cert: own.certificate, Prints: []string{other.print}, Now: usualTime,
		Random: sample(seed, 32), Secret: sample(seed+1, 32), Suites: []int{gcmSuite, chachaSuite},
	}
}

// course is the ten messages of the handshake of two sides: the first and the
// last three are the client's.
func course(client, server shake.Config) []string {
	a, _ := newModel(false, client)
	b, _ := newModel(true, server)
	first, _ := a.start()
	all := []string{first}
	flight, _ := b.take(first)
	for _, m := range flight {
		all = append(all, m)
		answer, _ := a.take(m)
		all = append(all, answer...)
	}
	return all
}

// usual is the course of the sides of most tests.
var usual = sync.OnceValue(func() []string { return course(configOf(false), configOf(true)) })

// heard is what the server, or the client, hears of a course.
func heard(server bool, all []string) []string {
	if server {
		return append([]string{all[0]}, all[7:]...)
	}
	return slices.Clone(all[1:7])
}

// behind is a side of the usual course that has accepted its first n messages.
func behind(t testing.TB, server bool, n int) *pair {
	t.Helper()
	p := newPair(t, server, configOf(server))
	if !server {
		p.start()
	}
	p.takesAll(heard(server, usual())[:n]...)
	return p
}

// encoded is a message as bytes.
func encoded(t testing.TB, m hello.Message) string {
	t.Helper()
	s, e := hello.Encode(m)
	if e != api.OK {
		t.Fatalf("Encode(%+v) = %v", m, e)
	}
	return s
}

// decoded is the one message that data is.
func decoded(t testing.TB, data string) hello.Message {
	t.Helper()
	m, rest, e := hello.Decode(data)
	if e != api.OK || rest != "" {
		t.Fatalf("Decode(%x) = %x, %v", data, rest, e)
	}
	return m
}

// bothEnds runs a test for a server and for a client.
func bothEnds(t *testing.T, test func(t *testing.T, server bool)) {
	t.Parallel()
	for _, server := range []bool{true, false} {
		name := "client"
		if server {
			name = "server"
		}
		t.Run(name, func(t *testing.T) {
			t.Parallel()
			test(t, server)
		})
	}
}

// checkNew holds New of a server's side and of a client's against an error.
func checkNew(t *testing.T, what string, change func(c *shake.Config), want api.Errno) {
	t.Helper()
	for _, server := range []bool{true, false} {
		c := configOf(server)
		change(&c)
		s, e := shake.New(server, c)
		if e != want || (s == nil) != (want != api.OK) {
			t.Errorf("New(%v, ..), %s: a side: %v, %v, not %v", server, what, s != nil, e, want)
		}
		if _, e := newModel(server, c); e != want {
			t.Errorf("the model of %s: %v, not %v", what, e, want)
		}
	}
}

// noSuites are numbers that are none, among them some that would be one if only
// their low bits counted, or only their size.
func noSuites() []int {
	list := []int{math.MinInt, math.MaxInt, -1, 0, 1, 16, 32, 4864, 4866, 4868, 49195, 65535, 65536}
	for _, n := range []int{gcmSuite, chachaSuite} {
		list = append(list, -n, ^n, n+256, n-256, n+1<<16, n+1<<32, n-1<<32, n+math.MinInt, n<<8)
	}
	return list
}

// suiteLists are all lists of n suites.
func suiteLists(n int) [][]int {
	if n == 0 {
		return [][]int{nil}
	}
	var out [][]int
	for _, l := range suiteLists(n - 1) {
		out = append(out, append(slices.Clone(l), gcmSuite), append(slices.Clone(l), chachaSuite))
	}
	return out
}

// P18.1: how many Suites there are, the same one twice among them.
func TestNumbersOfSuites(t *testing.T) {
	t.Parallel()
	for _, c := range []struct {
		n    int
		want api.Errno
	}{{0, api.ErrArg}, {1, api.OK}, {2, api.OK}, {3, api.OK}, {4, api.OK}, {5, api.ErrArg}, {6, api.ErrArg}} {
		for _, l := range suiteLists(c.n) {
			checkNew(t, "suites", func(c *shake.Config) { c.Suites = l }, c.want)
		}
	}
	for _, l := range [][]int{nil, {}, make([]int, 5), slices.Repeat([]int{gcmSuite}, 8), slices.Repeat([]int{chachaSuite}, 256), slices.Repeat([]int{chachaSuite}, 65536+1), slices.Repeat([]int{gcmSuite}, 65536+4)} {
		checkNew(t, "other numbers of suites", func(c *shake.Config) { c.Suites = l }, api.ErrArg)
	}
}

// P18.1: elements that are no suites, at each place.
func TestElementsOfSuites(t *testing.T) {
	for _, wrong := range noSuites() {
		for n := 1; n <= 5; n++ {
			for i := range n {
				l := []int{gcmSuite, chachaSuite, chachaSuite, gcmSuite, chachaSuite}[:n]
				l[i] = wrong
				checkNew(t, "no suite", func(c *shake.Config) { c.Suites = l }, api.ErrArg)
			}
		}
	}
}

// P18.1: Random and Secret of each length. Seeds and certificates are looked at
// elsewhere.
func TestLengthsOfNew(t *testing.T) {
	t.Parallel()
	for _, n := range []int{0, 1, 16, 30, 31, 32, 33, 34, 63, 64, 65, 255, 256, 256 + 32, 65536 + 32} {
		want := api.ErrKey
		if n == 32 {
			want = api.OK
		}
		checkNew(t, "Random", func(c *shake.Config) { c.Random = sample(n, n) }, want)
		checkNew(t, "Secret", func(c *shake.Config) { c.Secret = sample(n, n) }, want)
		checkNew(t, "both", func(c *shake.Config) { c.Random, c.Secret = sample(n, n), sample(n, n) }, want)
		checkNew(t, "as much together", func(c *shake.Config) { c.Random, c.Secret = sample(n, n), sample(n, max(0, 64-n)) }, want)
		checkNew(t, "zeros", func(c *shake.Config) { c.Random, c.Secret = zeros(n), zeros(n) }, want)
	}
}

// P18.1: certificates that are none, or whose signature is none. A certificate
// that is out of its time, or that is not let in, may be the own one.
func TestCertificatesOfNew(t *testing.T) {
	t.Parallel()
	right := sender().certificate
	for _, data := range []string{
		"", "x", "0", zeros(1), zeros(1000), right[1:], right[:len(right)-1], right + "\x00", right + right, "\x00" + right, right + zeros(1000),
		flipped(right, 0), flipped(right, 8*len(right)-1), flipped(right, 8*len(right)-300), flipped(right, 8*len(right)-512), sender().print, sender().seed,
		strings.Replace(right, "sender", "Sender", 1), strings.Replace(right, "20000229", "20000228", 1),
	} {
		checkNew(t, "no certificate", func(c *shake.Config) { c.Seed, c.Cert = sender().seed, data }, api.ErrKey)
	}
	for _, now := range []int{math.MinInt, -1, 0, firstTime - 1, firstTime, lastTime, lastTime + 1, math.MaxInt} {
		checkNew(t, "time", func(c *shake.Config) { c.Now = now }, api.OK)
	}
	for _, l := range [][]string{nil, {}, {""}, {"x", "y"}, {sender().print, collector().print}, {sender().certificate}} {
		checkNew(t, "fingerprints", func(c *shake.Config) { c.Prints = l }, api.OK)
	}
}

// P18.1: seeds of other lengths, and those of other keys.
func TestSeedsOfNew(t *testing.T) {
	t.Parallel()
	for _, own := range []owner{sender(), collector(), stranger()} {
		checkNew(t, "the own seed", func(c *shake.Config) { c.Seed, c.Cert = own.seed, own.certificate }, api.OK)
	}
	public, e := sign.Public(sender().seed)
	if e != api.OK {
		t.Fatal(e)
	}
	right := sender().seed
	wrong := []string{"", "x", right[:16], right[:31], right[1:], right + "\x00", "\x00" + right, right + right, right + public, public, collector().seed, stranger().seed, zeros(32), zeros(64), strings.Repeat("\xff", 32), sample(1, 31), sample(1, 33)}
	for n := 0; n < 256; n += 7 {
		wrong = append(wrong, flipped(right, n))
	}
	for _, seed := range wrong {
		checkNew(t, "another seed", func(c *shake.Config) { c.Seed, c.Cert = seed, sender().certificate }, api.ErrKey)
	}
	checkNew(t, "another certificate", func(c *shake.Config) { c.Seed, c.Cert = sender().seed, collector().certificate }, api.ErrKey)
}

// P18.1: which error is answered where several apply.
func TestWhichErrorOfNew(t *testing.T) {
	wrong := []func(c *shake.Config){
		func(c *shake.Config) { c.Random = c.Random[:31] },
		func(c *shake.Config) { c.Secret += "x" },
		func(c *shake.Config) { c.Cert = "x" },
		func(c *shake.Config) { c.Seed = sample(1, 32) },
		func(c *shake.Config) { c.Seed = "" },
	}
	for _, suites := range [][]int{nil, {}, {4866}, {gcmSuite, 0}, {gcmSuite, chachaSuite, gcmSuite, chachaSuite, gcmSuite}} {
		for _, change := range wrong {
			checkNew(t, "both", func(c *shake.Config) { c.Suites = suites; change(c) }, api.ErrArg)
		}
		checkNew(t, "all", func(c *shake.Config) { *c = shake.Config{Suites: suites} }, api.ErrArg)
	}
	for _, change := range wrong {
		checkNew(t, "one", change, api.ErrKey)
	}
	checkNew(t, "all but the suites", func(c *shake.Config) { *c = shake.Config{Suites: []int{gcmSuite}} }, api.ErrKey)
}

// P18.1: nothing has been said on a new side, whichever end it is.
func TestNewSides(t *testing.T) {
	for _, server := range []bool{true, false} {
		s, e := shake.New(server, configOf(server))
		if e != api.OK || s.Done() || s.Suite() != 0 || s.Secrets() != [4]string{} || s.Peer() != "" {
			t.Errorf("New(%v, ..): %v, %v, %d, %x, %x", server, e, s.Done(), s.Suite(), s.Secrets(), s.Peer())
		}
		want := api.OK
		if server {
			want = api.ErrMsg
		}
		if _, e := s.Start(); e != want {
			t.Errorf("Start() of New(%v, ..) = %v, not %v", server, e, want)
		}
	}
}

// P18.1: all methods of a nil side, as often as they are called.
func TestNilSide(t *testing.T) {
	var s *shake.Side
	for range 2 {
		if m, e := s.Start(); m != "" || e != api.ErrNil {
			t.Errorf("Start() = %x, %v", m, e)
		}
		for _, data := range append([]string{"", "x", zeros(5000)}, usual()...) {
			if l, e := s.Take(data); len(l) != 0 || e != api.ErrNil {
				t.Errorf("Take(%x) = %x, %v", data, l, e)
			}
		}
		if s.Done() || s.Suite() != 0 || s.Secrets() != [4]string{} || s.Peer() != "" {
			t.Errorf("%v, %d, %x, %x", s.Done(), s.Suite(), s.Secrets(), s.Peer())
		}
	}
}

// R1: a side that New has not made is nobody's, and yet has to end its calls.
func TestZeroSide(t *testing.T) {
	for _, data := range append([]string{"", "x"}, usual()...) {
		s := new(shake.Side)
		s.Start()
		s.Take(data)
		s.Start()
		s.Take(data)
		s.Done()
		s.Suite()
		s.Secrets()
		s.Peer()
	}
}

// P18.2: the fields of the first message, of all lists of suites.
func TestStart(t *testing.T) {
	t.Parallel()
	for n := 1; n <= 4; n++ {
		for i, l := range suiteLists(n) {
			c := configOf(false)
			c.Suites, c.Random, c.Secret = l, sample(10*i+n, 32), sample(10*i+n+5, 32)
			p := newPair(t, false, c)
			first, e := p.start()
			if e != api.OK {
				t.Fatal(e)
			}
			share, _ := ladder.Public(c.Secret)
			m := decoded(t, first)
			if m.Kind != hello.Client || m.Random != c.Random || m.Share != share || !slices.Equal(m.Suites, l) {
				t.Errorf("Start() = %+v", m)
			}
		}
	}
	for _, s := range []string{zeros(32), strings.Repeat("\xff", 32)} {
		c := configOf(false)
		c.Random, c.Secret = s, s
		newPair(t, false, c).start()
	}
}

// P18.2: a second call at each place of the handshake. The error is no failure:
// the handshake goes on as if nothing had been asked.
func TestStartAgain(t *testing.T) {
	bothEnds(t, func(t *testing.T, server bool) {
		p := behind(t, server, 0)
		for _, m := range append(heard(server, usual()), "") {
			for range 2 {
				if _, e := p.start(); e != api.ErrMsg {
					t.Errorf("Start() = %v", e)
				}
			}
			if m != "" {
				p.takes(m, api.OK)
			}
		}
		if !p.s.Done() {
			t.Error("not done")
		}
	})
}

// P18.2: a side that has failed at each place of the handshake, one that was
// not started among them.
func TestStartBehindAFailure(t *testing.T) {
	p := newPair(t, false, configOf(false))
	p.takes(usual()[1], api.ErrMsg)
	p.isClosed("", usual()[1])
	bothEnds(t, func(t *testing.T, server bool) {
		for n, m := range heard(server, usual()) {
			p := behind(t, server, n)
			p.takes(m+"x", api.ErrBytes)
			p.isClosed(m, m+"x")
		}
		p := behind(t, server, len(heard(server, usual())))
		p.takes("", api.ErrMsg)
		p.isClosed("", usual()[0])
	})
}

// The chapter's examples.
func TestExamples(t *testing.T) {
	for _, data := range append([]string{"", "x"}, usual()...) {
		s, _ := shake.New(false, configOf(false))
		if l, e := s.Take(data); len(l) != 0 || e != api.ErrMsg {
			t.Errorf("Take(%x) ahead of Start = %x, %v", data, l, e)
		}
	}
	s, _ := shake.New(true, configOf(true))
	if m, e := s.Start(); m != "" || e != api.ErrMsg {
		t.Errorf("Start() of a server = %x, %v", m, e)
	}
}
