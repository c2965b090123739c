package shake_test

import (
	"math"
	"strings"
	"testing"

	"cresset/api"
	"cresset/cert"
	"cresset/hello"
	"cresset/keys"
	"cresset/ladder"
	"cresset/shake"
	"cresset/sign"
)

// everyMessage is the ten of a handshake, and those of no handshake.
func everyMessage(t *testing.T) []string {
	return append(append([]string(nil), usual()...), encoded(t, hello.Message{Kind: hello.Update}), encoded(t, hello.Message{Kind: hello.Update, Ask: true}))
}

// places is how many messages a side may have accepted.
func places(server bool) int { return len(heard(server, usual())) + 1 }

// next is the message that a side expects at a place, if it does.
func next(server bool, n int) string {
	if n == places(server)-1 {
		return ""
	}
	return heard(server, usual())[n]
}

// P18.3: every message at each place: the one that is expected there is taken,
// and any other one is ErrMsg, those among them that were right at another
// place, unless it is of the right kind, but the own one.
func TestOutOfOrder(t *testing.T) {
	bothEnds(t, func(t *testing.T, server bool) {
		for n := range places(server) {
			for _, m := range everyMessage(t) {
				want := api.ErrMsg
				if right := next(server, n); right != "" && right[0] == m[0] {
					want = map[byte]api.Errno{hello.Certificate: api.ErrWho, hello.Verify: api.ErrSig, hello.Finished: api.ErrTag}[m[0]]
				}
				p := behind(t, server, n)
				if m == next(server, n) {
					p.takes(m, api.OK)
					p.takes(m, api.ErrMsg) // repeated
				} else {
					p.takes(m, want)
				}
				p.isClosed(m, next(server, n))
			}
		}
	})
}

// P18.3: data that is not exactly one message, at each place where one is
// expected. Where none is, whatever comes is ErrMsg.
func TestNotOneMessage(t *testing.T) {
	bothEnds(t, func(t *testing.T, server bool) {
		for n := range places(server) {
			m, want := next(server, n), api.ErrBytes
			if m == "" {
				m, want = usual()[8], api.ErrMsg
			}
			other := usual()[2]
			for _, data := range []string{
				"", m[:1], m[:3], m[:4], m[:len(m)-1], m + "\x00", m + "x", m + m, m + other, other + m, "\x00" + m, m + usual()[0], m + m[:1],
				other + other, other + "x", "\x08\x00\x00\x02\x00\x01", "\x08\x00\x10\x01" + zeros(4097), "\x08\xff\xff\xff", "x", zeros(4), zeros(100), zeros(1 << 17), "\x00" + m[1:], "\xfe\x00\x00\x00",
			} {
				p := behind(t, server, n)
				p.takes(data, want)
				p.isClosed(data, next(server, n))
			}
		}
	})
}

// P18.3: all beginnings of a message that is expected.
func TestBeginnings(t *testing.T) {
	t.Parallel()
	for n := range len(usual()[0]) {
		behind(t, true, 0).takes(usual()[0][:n], api.ErrBytes)
	}
	for n := range len(usual()[1]) {
		behind(t, false, 0).takes(usual()[1][:n], api.ErrBytes)
	}
}

// P18.3: a client that was not started expects nothing, and has failed then.
func TestTakeAheadOfStart(t *testing.T) {
	t.Parallel()
	for _, data := range append(everyMessage(t), "", "x", zeros(5000)) {
		p := newPair(t, false, configOf(false))
		p.takes(data, api.ErrMsg)
		p.isClosed(usual()[1], data)
	}
}

// P18.3: a side that is done expects nothing: what it hears is ErrMsg once, and
// then it is no longer done, but knows all that it knew.
func TestTakeBehindTheEnd(t *testing.T) {
	bothEnds(t, func(t *testing.T, server bool) {
		for _, data := range append(everyMessage(t), "", "x", zeros(5000)) {
			p := behind(t, server, places(server)-1)
			secrets := p.s.Secrets()
			if !p.s.Done() {
				t.Fatal("not done")
			}
			p.takes(data, api.ErrMsg)
			if p.s.Done() || p.s.Suite() != gcmSuite || p.s.Secrets() != secrets || p.s.Peer() != configOf(server).Prints[0] {
				t.Errorf("behind the end: %v, %d, %x, %x", p.s.Done(), p.s.Suite(), p.s.Secrets(), p.s.Peer())
			}
			p.isClosed(data, usual()[0])
		}
	})
}

// P18.3: bytes of all messages changed: the error is that of the model, or
// there is none, and then the sides do not come to the same.
func TestChangedBytes(t *testing.T) {
	bothEnds(t, func(t *testing.T, server bool) {
		for n, m := range heard(server, usual()) {
			for i := range len(m) {
				if i%7 != n && i > 8 {
					continue
				}
				p := behind(t, server, n)
				p.take(flipped(m, 8*i+(i+n)%8))
				p.takeRest(heard(server, usual())[n+1:])
				if p.s.Done() {
					t.Errorf("done, with byte %d of message %d changed", i, n)
				}
			}
		}
	})
}

// takeRest takes messages whatever becomes of them.
func (p *pair) takeRest(messages []string) {
	for _, m := range messages {
		p.take(m)
	}
}

// ownLists are suites that a side may have, and offers are those of which the
// other side may speak.
func ownLists() [][]int {
	a, b := gcmSuite, chachaSuite
	return [][]int{{a}, {b}, {a, b}, {b, a}, {a, a}, {b, b, a}, {a, b, a, b}, {b, b, b, a}}
}

func offers() [][]int {
	a, b := gcmSuite, chachaSuite
	return [][]int{{a}, {b}, {a, b}, {b, a}, {b, b}, {4866}, {4866, a}, {a, 4866, b}, {0, 65535, 49195, 4868}, {1, 2, 3, b}, {b, a, a, a}, {a, b, b, b}}
}

// clientWith is the first message of a client with other suites and another
// share.
func clientWith(t *testing.T, share string, suites []int) string {
	return encoded(t, hello.Message{Kind: hello.Client, Random: sample(1, 32), Share: share, Suites: suites})
}

// serverWith is the same of a server.
func serverWith(t *testing.T, share string, suite int) string {
	return encoded(t, hello.Message{Kind: hello.Server, Random: sample(2, 32), Share: share, Suites: []int{suite}})
}

// shareOf is the public key of a secret.
func shareOf(t *testing.T, secret string) string {
	t.Helper()
	s, e := ladder.Public(secret)
	if e != api.OK {
		t.Fatal(e)
	}
	return s
}

// P18.3: a server chooses the first of its own suites that the client offers.
func TestChoiceOfAServer(t *testing.T) {
	t.Parallel()
	for _, own := range ownLists() {
		for _, offer := range offers() {
			want := 0
			for _, n := range own {
				for _, m := range offer {
					if n == m && want == 0 {
						want = n
					}
				}
			}
			c := configOf(true)
			c.Suites = own
			p := newPair(t, true, c)
			out, e := p.take(clientWith(t, shareOf(t, sample(3, 32)), offer))
			if p.s.Suite() != want || (e == api.OK) != (want != 0) || want == 0 && e != api.ErrMsg {
				t.Errorf("%v of %v: %d, %v, not %d", own, offer, p.s.Suite(), e, want)
			}
			if want != 0 && (len(out) != 6 || decoded(t, out[0]).Suites[0] != want) {
				t.Errorf("%v of %v: %x", own, offer, out)
			}
		}
	}
}

// P18.3: a client takes each of its own suites, whichever it likes best, and no
// other one.
func TestChoiceHeardByAClient(t *testing.T) {
	t.Parallel()
	for _, own := range ownLists() {
		for _, suite := range []int{gcmSuite, chachaSuite, 0, 1, 4864, 4866, 4868, 49195, 65535, gcmSuite ^ 256, chachaSuite ^ 1<<15} {
			want := api.ErrMsg
			for _, n := range own {
				if n == suite {
					want = api.OK
				}
			}
			c := configOf(false)
			c.Suites = own
			p := newPair(t, false, c)
			p.start()
			out := p.takes(serverWith(t, shareOf(t, sample(4, 32)), suite), want)
			if len(out) != 0 || want == api.OK && p.s.Suite() != suite || want != api.OK && p.s.Suite() != 0 {
				t.Errorf("%v heard %d: %x, %d", own, suite, out, p.s.Suite())
			}
		}
	}
}

// smallShares are the public keys whose results are all zero.
func smallShares(t *testing.T) []string {
	var out []string
	for _, s := range []string{
		"00", "01", "e0eb7a7c3b41b8ae1656e3faf19fc46ada098deb9c32b1fd866205165f49b800", "5f9c95bca3508c24b1d0b1559c83ef5b04445cc4581c8e86d8224eddd09f1157",
		"ec" + strings.Repeat("ff", 30) + "7f", "ed" + strings.Repeat("ff", 30) + "7f", "ee" + strings.Repeat("ff", 30) + "7f",
	} {
		b := unhex(t, s)
		b += zeros(32 - len(b))
		out = append(out, b, flipped(b, 255))
	}
	return out
}

// P18.3: shares that come to zero bytes are ErrKey, of a Client and of a
// Server, but a suite that is not common goes first. Nothing is kept of such a
// message.
func TestSmallShares(t *testing.T) {
	t.Parallel()
	for _, share := range smallShares(t) {
		for _, c := range []struct {
			suite int
			want  api.Errno
		}{{gcmSuite, api.ErrKey}, {chachaSuite, api.ErrKey}, {4866, api.ErrMsg}} {
			server, client := behind(t, true, 0), behind(t, false, 0)
			server.takes(clientWith(t, share, []int{c.suite}), c.want)
			client.takes(serverWith(t, share, c.suite), c.want)
			for _, p := range []*pair{server, client} {
				if p.s.Suite() != 0 || p.s.Secrets() != [4]string{} {
					t.Errorf("of %x: %d, %x", share, p.s.Suite(), p.s.Secrets())
				}
				p.isClosed(usual()[0], usual()[1])
			}
		}
	}
}

// P18.3: other shares are taken, whatever their bytes are, even the own one.
func TestOtherShares(t *testing.T) {
	t.Parallel()
	shares := []string{sample(1, 32), strings.Repeat("\xff", 32), "\x02" + zeros(31), "\x09" + zeros(31), "\xef" + strings.Repeat("\xff", 30) + "\x7f", shareOf(t, configOf(true).Secret), shareOf(t, configOf(false).Secret)}
	for i, share := range shares {
		for _, s := range []string{share, flipped(share, 255)} {
			if out := behind(t, true, 0).takes(clientWith(t, s, []int{chachaSuite}), api.OK); len(out) != 6 {
				t.Errorf("share %d: %x", i, out)
			}
			if out := behind(t, false, 0).takes(serverWith(t, s, chachaSuite), api.OK); len(out) != 0 {
				t.Errorf("share %d: %x", i, out)
			}
		}
	}
}

// certified is a message with a certificate.
func certified(t *testing.T, data string) string {
	return encoded(t, hello.Message{Kind: hello.Certificate, Data: data})
}

// atCertificate is a side that expects a certificate, with some of its
// properties changed.
func atCertificate(t *testing.T, server bool, change func(c *shake.Config)) *pair {
	t.Helper()
	c := configOf(server)
	change(&c)
	p := newPair(t, server, c)
	n := 1
	if !server {
		p.start()
		n = 3
	}
	p.takesAll(heard(server, usual())[:n]...)
	return p
}

// checkCertificate holds a side that hears a certificate against an error.
func checkCertificate(t *testing.T, server bool, change func(c *shake.Config), data string, want api.Errno) {
	t.Helper()
	p := atCertificate(t, server, change)
	out := p.takes(certified(t, data), want)
	peer := ""
	if want == api.OK {
		peer = cert.Print(data)
	}
	if len(out) != 0 || p.s.Peer() != peer {
		t.Errorf("%x: %x, %x, not %x", data, out, p.s.Peer(), peer)
	}
	if want != api.OK {
		p.isClosed(certified(t, data))
	}
}

// P18.3: certificates that are let in, and that are not: by their fingerprints.
func TestFingerprints(t *testing.T) {
	bothEnds(t, func(t *testing.T, server bool) {
		right, other := configOf(server).Prints[0], stranger().print
		shown := map[bool]owner{true: sender(), false: collector()}[server]
		for _, c := range []struct {
			prints []string
			want   api.Errno
		}{
			{nil, api.ErrWho}, {[]string{}, api.ErrWho}, {[]string{""}, api.ErrWho}, {[]string{other}, api.ErrWho}, {[]string{shown.certificate}, api.ErrWho}, {[]string{right[:31], right + "x", flipped(right, 3)}, api.ErrWho},
			{[]string{configOf(!server).Prints[0]}, api.ErrWho}, // the own one
			{[]string{right}, api.OK}, {[]string{right, other}, api.OK}, {[]string{other, right}, api.OK}, {[]string{other, "", right, other}, api.OK}, {[]string{right, right}, api.OK},
		} {
			checkCertificate(t, server, func(x *shake.Config) { x.Prints = c.prints }, shown.certificate, c.want)
		}
		own := configOf(server)
		checkCertificate(t, server, func(x *shake.Config) { x.Prints = append(x.Prints, cert.Print(own.Cert)) }, own.Cert, api.OK)
		checkCertificate(t, server, func(x *shake.Config) {}, own.Cert, api.ErrWho)
	})
}

// P18.3: certificates ahead of, in and behind their time, of which the one that
// is not let in goes first.
func TestTimes(t *testing.T) {
	bothEnds(t, func(t *testing.T, server bool) {
		shown := map[bool]owner{true: sender(), false: collector()}[server]
		for now, want := range map[int]api.Errno{
			firstTime: api.OK, firstTime + 1: api.OK, usualTime: api.OK, lastTime - 1: api.OK, lastTime: api.OK,
			firstTime - 1: api.ErrDate, lastTime + 1: api.ErrDate, 0: api.ErrDate, -1: api.ErrDate, math.MinInt: api.ErrDate, math.MaxInt: api.ErrDate, usualTime - 1<<32: api.ErrDate, usualTime + 1<<32: api.ErrDate,
		} {
			checkCertificate(t, server, func(c *shake.Config) { c.Now = now }, shown.certificate, want)
			checkCertificate(t, server, func(c *shake.Config) { c.Now, c.Prints = now, nil }, shown.certificate, api.ErrWho)
		}
	})
}

// P18.3: what is no certificate, or has no right signature, though it is let
// in by its fingerprint.
func TestNoCertificates(t *testing.T) {
	bothEnds(t, func(t *testing.T, server bool) {
		right := map[bool]owner{true: sender(), false: collector()}[server].certificate
		for _, c := range []struct {
			data string
			want api.Errno
		}{
			{"x", api.ErrBytes}, {zeros(1), api.ErrBytes}, {zeros(1000), api.ErrBytes}, {right[1:], api.ErrBytes}, {right[:len(right)-1], api.ErrBytes}, {right + "\x00", api.ErrBytes}, {right + right, api.ErrBytes},
			{flipped(right, 0), api.ErrBytes}, {flipped(right, 8*len(right)-1), api.ErrSig}, {flipped(right, 8*len(right)-300), api.ErrSig}, {strings.Replace(right, "20000229", "20000228", 1), api.ErrSig},
		} {
			for _, prints := range [][]string{nil, {cert.Print(c.data)}} {
				for _, now := range []int{usualTime, 0} {
					checkCertificate(t, server, func(x *shake.Config) { x.Prints, x.Now = prints, now }, c.data, c.want)
				}
			}
		}
	})
}

// atVerify is a side that has accepted the certificate of an owner whom it lets
// in, and expects a signature.
func atVerify(t *testing.T, server bool, who owner) *pair {
	t.Helper()
	p := atCertificate(t, server, func(c *shake.Config) { c.Prints = []string{who.print} })
	p.takes(certified(t, who.certificate), api.OK)
	return p
}

// signature is what a seed makes of a text.
func signature(t *testing.T, seed, text string) string {
	t.Helper()
	s, e := sign.Sign(seed, text)
	if e != api.OK {
		t.Fatal(e)
	}
	return s
}

// P18.3: signatures of the accepted certificate's key, whoever's it is, of the
// transcript, and all others.
func TestSignatures(t *testing.T) {
	bothEnds(t, func(t *testing.T, server bool) {
		for _, who := range []owner{sender(), collector(), stranger()} {
			said := atVerify(t, server, who).m.said
			all := strings.Join(said, "")
			right := signature(t, who.seed, keys.Signed(!server, all))
			wrong := []string{zeros(64), strings.Repeat("\xff", 64), right[32:] + right[:32], sample(1, 64), decoded(t, usual()[5]).Data, decoded(t, usual()[8]).Data,
				signature(t, who.seed, keys.Signed(server, all)), signature(t, who.seed, all), signature(t, who.seed, ""),
				signature(t, who.seed, keys.Signed(!server, "")), signature(t, who.seed, keys.Signed(!server, all+"x")),
				signature(t, who.seed, keys.Signed(!server, strings.Join(said[:len(said)-1], ""))), signature(t, who.seed, keys.Signed(!server, strings.Join(said[1:], ""))),
				signature(t, who.seed, keys.Signed(!server, said[len(said)-1])), signature(t, who.seed, keys.Signed(!server, all+all)),
				flipped(right, 0), flipped(right, 255), flipped(right, 256), flipped(right, 511), flipped(right, 100), flipped(right, 400),
			}
			for _, other := range []owner{sender(), collector(), stranger()} {
				if other != who {
					wrong = append(wrong, signature(t, other.seed, keys.Signed(!server, all)))
				}
			}
			for _, s := range wrong {
				if s == right {
					continue
				}
				p := atVerify(t, server, who)
				p.takes(encoded(t, hello.Message{Kind: hello.Verify, Data: s}), api.ErrSig)
				p.isClosed(encoded(t, hello.Message{Kind: hello.Verify, Data: right}))
			}
			p := atVerify(t, server, who)
			if out := p.takes(encoded(t, hello.Message{Kind: hello.Verify, Data: right}), api.OK); len(out) != 0 || p.s.Done() || p.s.Peer() != who.print {
				t.Errorf("%x, %v, %x", out, p.s.Done(), p.s.Peer())
			}
		}
	})
}

// P18.3: tags: the right one, each with a byte changed, and those of other
// secrets or transcripts.
func TestTags(t *testing.T) {
	bothEnds(t, func(t *testing.T, server bool) {
		n := places(server) - 2
		p := behind(t, server, n)
		said, l := p.m.said, p.m.secrets()
		all := strings.Join(said, "")
		others, own := l[1], l[0]
		if server {
			others, own = own, others
		}
		right := keys.Tag(others, all)
		if right != decoded(t, next(server, n)).Data {
			t.Fatalf("%x", right)
		}
		wrong := []string{zeros(32), others, own, sample(1, 32), keys.Tag(own, all), keys.Tag(others, ""), keys.Tag(others, all+"x"), keys.Tag("", all), keys.Tag(others, strings.Join(said[:len(said)-1], "")), keys.Tag(others, strings.Join(said[1:], "")),
			keys.Tag(keys.Handshake(p.m.shared), all), keys.Tag(keys.Next(others), all), decoded(t, usual()[6]).Data, decoded(t, usual()[9]).Data, right[1:] + right[:1],
			keys.Tag(l[2], all), keys.Tag(l[3], all)}
		for i := range 32 {
			wrong = append(wrong, flipped(right, 8*i+i%8))
		}
		for _, tag := range wrong {
			if tag == right {
				continue
			}
			p := behind(t, server, n)
			p.takes(encoded(t, hello.Message{Kind: hello.Finished, Data: tag}), api.ErrTag)
			if p.s.Done() || !server && p.s.Secrets() != [4]string{l[0], l[1]} {
				t.Errorf("behind another tag: %v, %x", p.s.Done(), p.s.Secrets())
			}
			p.isClosed(next(server, n))
		}
	})
}

// P18.3: which error is answered where several apply, ahead of those that a
// kind has: that the side has failed, that it expects nothing, that data is not
// one message, and that it is of another kind.
func TestWhichErrorOfTake(t *testing.T) {
	t.Parallel()
	small := clientWith(t, zeros(32), []int{4866})
	for _, c := range []struct {
		data string
		want api.Errno
	}{
		{small, api.ErrMsg}, {small + "x", api.ErrBytes}, {small[:len(small)-1], api.ErrBytes}, {clientWith(t, zeros(32), []int{gcmSuite}), api.ErrKey},
		{serverWith(t, zeros(32), gcmSuite), api.ErrMsg}, {serverWith(t, zeros(32), gcmSuite) + "x", api.ErrBytes}, {"", api.ErrBytes},
	} {
		behind(t, true, 0).takes(c.data, c.want)
		behind(t, true, 4).takes(c.data, api.ErrMsg)
		newPair(t, false, configOf(false)).takes(c.data, api.ErrMsg)
		failed := behind(t, true, 0)
		failed.takes("x", api.ErrBytes)
		failed.takes(c.data, api.ErrClosed)
	}
}
