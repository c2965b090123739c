package shake_test

import (
	"math/rand"
	"slices"
	"strings"
	"sync"
	"testing"
	"unsafe"

	"cresset/api"
	"cresset/hello"
	"cresset/keys"
	"cresset/ladder"
	"cresset/shake"
)

// shown is what the state of a side tells.
type shown struct {
	done    bool
	suite   int
	secrets [4]string
	peer    string
}

func stateOf(s *shake.Side) shown {
	return shown{s.Done(), s.Suite(), s.Secrets(), s.Peer()}
}

// usualSecrets are those of the usual course, from the calls of the layers
// below.
func usualSecrets(t *testing.T) [4]string {
	t.Helper()
	shared, e := ladder.Share(configOf(true).Secret, shareOf(t, configOf(false).Secret))
	if e != api.OK {
		t.Fatal(e)
	}
	h := keys.Handshake(shared)
	var l [4]string
	for i, c := range []struct {
		from, label string
		n           int // messages that were said
	}{{h, "c hs traffic", 2}, {h, "s hs traffic", 2}, {keys.Master(h), "c ap traffic", 7}, {keys.Master(h), "s ap traffic", 7}} {
		if l[i], e = keys.Secret(c.from, c.label, strings.Join(usual()[:c.n], "")); e != api.OK || len(l[i]) != 32 {
			t.Fatal(e)
		}
	}
	return l
}

// stateAt is what a side of the usual course tells at a place.
func stateAt(t *testing.T, server bool, n int) shown {
	t.Helper()
	l, own := usualSecrets(t), configOf(server)
	var a shown
	if n >= 1 {
		a.suite = gcmSuite
		a.secrets = [4]string{l[0], l[1]}
	}
	if server && n >= 1 || n == 6 {
		a.secrets = l
	}
	if server && n >= 2 || n >= 4 {
		a.peer = own.Prints[0]
	}
	a.done = n == places(server)-1
	return a
}

// P18.4: the state at each place of the handshake, and behind a failure there,
// which changes nothing but that the side is not done.
func TestStates(t *testing.T) {
	bothEnds(t, func(t *testing.T, server bool) {
		for n := range places(server) {
			p, want := behind(t, server, n), stateAt(t, server, n)
			if got := stateOf(p.s); got != want {
				t.Errorf("behind %d messages: %+v, not %+v", n, got, want)
			}
			p.take(usual()[2][:5])
			want.done = false
			for range 2 {
				if got := stateOf(p.s); got != want {
					t.Errorf("and behind a failure: %+v, not %+v", got, want)
				}
				p.take(next(server, n))
				p.start()
			}
		}
	})
}

// P18.4: what a message with an error of its own leaves of the state.
func TestStatesBehindErrorsOfAKind(t *testing.T) {
	bothEnds(t, func(t *testing.T, server bool) {
		for n, m := range heard(server, usual()) {
			got := decoded(t, m)
			switch got.Kind {
			case hello.Client, hello.Server:
				got.Share = zeros(32)
			case hello.Certificate:
				got.Data = stranger().certificate
			case hello.Verify, hello.Finished:
				got.Data = flipped(got.Data, 9)
			default:
				continue
			}
			p, want := behind(t, server, n), stateAt(t, server, n)
			if _, e := p.take(encoded(t, got)); e == api.OK || stateOf(p.s) != want {
				t.Errorf("message %d: %v, %+v, not %+v", n, e, stateOf(p.s), want)
			}
		}
	})
}

// relayed is two sides that hear each other, up to the first error of each.
func relayed(t *testing.T, client, server shake.Config) (*pair, *pair, api.Errno, api.Errno) {
	t.Helper()
	a, b := newPair(t, false, client), newPair(t, true, server)
	first, e := a.start()
	if e != api.OK {
		t.Fatal(e)
	}
	flight, serverError := b.take(first)
	answer, clientError := a.takeSome(flight)
	if serverError == api.OK {
		_, serverError = b.takeSome(answer)
	}
	return a, b, clientError, serverError
}

// takeSome takes messages up to the first error, and is what was answered.
func (p *pair) takeSome(messages []string) ([]string, api.Errno) {
	p.t.Helper()
	var out []string
	for _, m := range messages {
		l, e := p.take(m)
		if e != api.OK {
			return nil, e
		}
		out = append(out, l...)
	}
	return out, api.OK
}

// meeting is two sides of which each may let the other one in, and their times.
type meeting struct {
	clientSuites, serverSuites []int
	clientAllows, serverAllows bool
	clientNow, serverNow       int
	suite                      int
}

// errors are those that the two sides should come to, by the chapter's words.
func (m meeting) errors() (api.Errno, api.Errno) {
	judged := func(allows bool, now int) api.Errno {
		switch {
		case !allows:
			return api.ErrWho
		case now < firstTime || now > lastTime:
			return api.ErrDate
		}
		return api.OK
	}
	if m.suite == 0 {
		return api.OK, api.ErrMsg
	}
	client := judged(m.clientAllows, m.clientNow)
	if client != api.OK {
		return client, api.OK
	}
	return api.OK, judged(m.serverAllows, m.serverNow)
}

func (m meeting) check(t *testing.T) {
	t.Helper()
	client, server := configOf(false), configOf(true)
	client.Suites, server.Suites = m.clientSuites, m.serverSuites
	client.Now, server.Now = m.clientNow, m.serverNow
	if !m.clientAllows {
		client.Prints = []string{sender().print, stranger().print}
	}
	if !m.serverAllows {
		server.Prints = nil
	}
	a, b, clientError, serverError := relayed(t, client, server)
	wantClient, wantServer := m.errors()
	if clientError != wantClient || serverError != wantServer {
		t.Errorf("%+v: %v, %v, not %v, %v", m, clientError, serverError, wantClient, wantServer)
	}
	if b.s.Suite() != m.suite || a.s.Suite() != m.suite {
		t.Errorf("%+v: %d, %d", m, a.s.Suite(), b.s.Suite())
	}
	clientDone := m.suite != 0 && wantClient == api.OK
	if serverDone := clientDone && wantServer == api.OK; a.s.Done() != clientDone || b.s.Done() != serverDone {
		t.Errorf("%+v: %v, %v, not %v, %v", m, a.s.Done(), b.s.Done(), clientDone, serverDone)
	} else if !serverDone {
		return
	}
	want := shown{true, m.suite, b.s.Secrets(), collector().print}
	if got := stateOf(a.s); got != want {
		t.Errorf("%+v: the client %+v, not %+v", m, got, want)
	}
	want.peer = sender().print
	if got := stateOf(b.s); got != want {
		t.Errorf("%+v: the server %+v, not %+v", m, got, want)
	}
	for i, s := range want.secrets {
		if len(s) != 32 || slices.Contains(want.secrets[:i], s) {
			t.Errorf("%+v: %x", m, want.secrets)
		}
	}
}

// P18.5: two sides that hear each other, over all ways of agreeing on a suite
// and of none, each letting the other one in or not, at times ahead of, in and
// behind both certificates.
func TestTwoSides(t *testing.T) {
	a, b := gcmSuite, chachaSuite
	for name, m := range map[string]meeting{
		"the first": {clientSuites: []int{a}, serverSuites: []int{a, b}, suite: a}, "the second": {clientSuites: []int{b, b}, serverSuites: []int{a, b}, suite: b},
		"the server's": {clientSuites: []int{a, b}, serverSuites: []int{b, a}, suite: b}, "none": {clientSuites: []int{a}, serverSuites: []int{b}},
	} {
		t.Run(name, func(t *testing.T) {
			t.Parallel()
			for i := range 4 {
				m.clientAllows, m.serverAllows = i&1 == 0, i&2 == 0
				for _, m.clientNow = range []int{firstTime - 1, usualTime, lastTime + 1} {
					for _, m.serverNow = range []int{firstTime - 1, usualTime, lastTime + 1} {
						m.check(t)
					}
				}
			}
		})
	}
}

// P18.5: two sides with other suites, at the first and the last second of both
// certificates.
func TestTwoSidesWithManySuites(t *testing.T) {
	t.Parallel()
	a, b := gcmSuite, chachaSuite
	for _, m := range []meeting{
		{clientSuites: []int{b, a}, serverSuites: []int{a, b}, suite: a}, {clientSuites: []int{a, b}, serverSuites: []int{a}, suite: a},
		{clientSuites: []int{b, b, b, a}, serverSuites: []int{a, a, b, b}, suite: a}, {clientSuites: []int{b, b}, serverSuites: []int{a, a, a, a}},
	} {
		m.clientAllows, m.serverAllows, m.clientNow, m.serverNow = true, true, firstTime, lastTime
		m.check(t)
		m.clientNow, m.serverNow = lastTime, firstTime
		m.check(t)
	}
}

// P18.5: sides of many kinds come to the same, and to different secrets with
// each change of a side.
func TestManySides(t *testing.T) {
	t.Parallel()
	seen := map[string]bool{}
	for i := range 30 {
		client, server := configOf(false), configOf(true)
		switch i % 5 {
		case 1:
			client.Random = sample(i, 32)
		case 2:
			server.Random = sample(i, 32)
		case 3:
			client.Secret = sample(i, 32)
		case 4:
			server.Secret = sample(i, 32)
		default:
			own := newOwner(100+i, strings.Repeat("n", 1+i), firstTime, lastTime)
			client.Seed, client.Cert, server.Prints = own.seed, own.certificate, []string{"x", own.print}
			own = newOwner(200+i, "collector", usualTime, usualTime)
			server.Seed, server.Cert, client.Prints = own.seed, own.certificate, []string{own.print, "y"}
		}
		a, b, e, f := relayed(t, client, server)
		if e != api.OK || f != api.OK || !a.s.Done() || !b.s.Done() || a.s.Secrets() != b.s.Secrets() || a.s.Suite() != b.s.Suite() {
			t.Fatalf("%d: %v, %v, %v, %v", i, e, f, stateOf(a.s), stateOf(b.s))
		}
		for k, s := range a.s.Secrets() {
			if seen[s] && (i%5 != 0 || k > 1) { // the first two have no certificates in them
				t.Errorf("%d: secret %d was there already", i, k)
			}
			seen[s] = true
		}
	}
}

// P18.5: each side alone, with the same one at both ends.
func TestOneOwnerAtBothEnds(t *testing.T) {
	c := configOf(false)
	c.Prints = []string{sender().print}
	a, b, e, f := relayed(t, c, c)
	if e != api.OK || f != api.OK || !a.s.Done() || !b.s.Done() || a.s.Secrets() != b.s.Secrets() || a.s.Peer() != sender().print || b.s.Peer() != sender().print {
		t.Errorf("%v, %v, %+v, %+v", e, f, stateOf(a.s), stateOf(b.s))
	}
}

// lent is a text in memory that can be changed.
type lent struct{ memory []byte }

func (l *lent) text(s string) string {
	l.memory = append([]byte(s), "behind"...)
	return unsafe.String(&l.memory[0], len(s))
}

// R2: what New was given may change behind it, and what lies behind a list does
// not count.
func TestConfigIsNotKept(t *testing.T) {
	bothEnds(t, func(t *testing.T, server bool) {
		given := configOf(server)
		var memory [5]lent
		prints, suites := []string{"x", memory[0].text(given.Prints[0]), "behind"}, []int{chachaSuite, gcmSuite, gcmSuite}
		c := shake.Config{
			Seed: memory[1].text(given.Seed), Cert: memory[2].text(given.Cert), Random: memory[3].text(given.Random), Secret: memory[4].text(given.Secret),
			Prints: prints[:2], Now: usualTime, Suites: suites[:2],
		}
		s, e := shake.New(server, c)
		if e != api.OK {
			t.Fatal(e)
		}
		if !slices.Equal(prints, []string{"x", given.Prints[0], "behind"}) || !slices.Equal(suites, []int{chachaSuite, gcmSuite, gcmSuite}) {
			t.Errorf("New has changed %x or %v", prints, suites)
		}
		clear(prints)
		clear(suites)
		for _, l := range memory {
			if string(l.memory[len(l.memory)-6:]) != "behind" {
				t.Errorf("New has changed what is behind a text")
			}
			clear(l.memory)
		}
		given.Suites = []int{chachaSuite, gcmSuite}
		m, _ := newModel(server, given)
		p := &pair{t, s, m}
		messages := heard(server, course(configOf(false), given))
		if !server {
			messages = heard(server, course(given, configOf(true)))
			p.start()
		}
		p.takesAll(messages...)
		if !s.Done() {
			t.Error("not done")
		}
	})
}

// R2: what Take was given stays as it is, and may change behind it.
func TestMessagesAreNotKept(t *testing.T) {
	bothEnds(t, func(t *testing.T, server bool) {
		p := behind(t, server, 0)
		for _, m := range heard(server, usual()) {
			var l lent
			data := l.text(m)
			got, e := p.s.Take(data)
			want, _ := p.m.take(m)
			if e != api.OK || !slices.Equal(got, want) || string(l.memory) != m+"behind" {
				t.Errorf("Take(%x): %x, %v, not %x", m, got, e, want)
			}
			for i := range l.memory {
				l.memory[i] ^= 0x55
			}
			p.check()
		}
		if !p.s.Done() {
			t.Error("not done")
		}
	})
}

// R2: what Take and Secrets answer belongs to the caller.
func TestAnswersAreNotKept(t *testing.T) {
	bothEnds(t, func(t *testing.T, server bool) {
		p := behind(t, server, 0)
		for _, m := range heard(server, usual()) {
			got, e := p.s.Take(m)
			if want, _ := p.m.take(m); e != api.OK || !slices.Equal(got, want) {
				t.Errorf("Take(%x): %x, %v, not %x", m, got, e, want)
			}
			clear(got)
			_ = append(got, "behind")
			l := p.s.Secrets()
			l[0], l[1], l[2], l[3] = "x", "", "y", "z"
			p.check()
		}
		if !p.s.Done() {
			t.Error("not done")
		}
	})
}

// R2: an answer stays what it was, whatever is said later.
func TestAnswersStay(t *testing.T) {
	a, b, _, _ := relayed(t, configOf(false), configOf(true))
	for _, p := range []*pair{a, b} {
		if !slices.Equal(p.m.said, usual()) || p.s.Secrets() != usualSecrets(t) {
			t.Errorf("%x", p.m.said)
		}
	}
	s := behind(t, true, 0).s
	got, e := s.Take(usual()[0])
	if e != api.OK {
		t.Fatal(e)
	}
	before := strings.Clone(strings.Join(got, ""))
	for _, m := range usual()[7:] {
		s.Take(m)
	}
	if strings.Join(got, "") != before || before != strings.Join(usual()[1:7], "") {
		t.Errorf("%x", got)
	}
}

// likely is a message that a side may hear, right or wrong.
func likely(t *testing.T, source *rand.Rand, server bool, taken int) string {
	if right := next(server, min(taken, places(server)-1)); source.Intn(4) > 0 {
		return right
	}
	m := usual()[source.Intn(10)]
	switch source.Intn(4) {
	case 0:
		return flipped(m, source.Intn(8*len(m)))
	case 1:
		return m[:source.Intn(len(m)+1)]
	case 2:
		return m + usual()[source.Intn(10)]
	}
	return m
}

// P18.1 to P18.4: calls without a pattern, of sides that are in turns, against
// the model.
func TestCallsWithoutAPattern(t *testing.T) {
	t.Parallel()
	source := rand.New(rand.NewSource(1))
	for range 60 {
		ends := []bool{true, false, source.Intn(2) == 0}
		var pairs []*pair
		for _, server := range ends {
			pairs = append(pairs, newPair(t, server, configOf(server)))
		}
		for range 20 {
			i := source.Intn(len(pairs))
			p := pairs[i]
			if source.Intn(6) == 0 || !ends[i] && len(p.m.said) == 0 && source.Intn(4) > 0 {
				p.start()
				continue
			}
			p.take(likely(t, source, ends[i], p.m.taken))
		}
	}
}

// R3: sides do not see each other, at the same time.
func TestSidesAreApart(t *testing.T) {
	t.Parallel()
	var workers sync.WaitGroup
	for i := range 8 {
		workers.Go(func() {
			client, server := configOf(false), configOf(true)
			client.Random, server.Secret = sample(i, 32), sample(i+50, 32)
			for range 2 {
				a, b, e, f := relayed(t, client, server)
				if e != api.OK || f != api.OK || a.s.Secrets() != b.s.Secrets() || !a.s.Done() || !b.s.Done() {
					t.Errorf("%d: %v, %v", i, e, f)
				}
			}
		})
	}
	workers.Wait()
}

// BenchmarkHandshake is a whole handshake of two new sides.
func BenchmarkHandshake(b *testing.B) {
	client, server := configOf(false), configOf(true)
	for b.Loop() {
		x, _ := shake.New(false, client)
		y, _ := shake.New(true, server)
		first, _ := x.Start()
		flight, _ := y.Take(first)
		for _, m := range flight {
			answer, _ := x.Take(m)
			for _, m := range answer {
				y.Take(m)
			}
		}
		if !x.Done() || !y.Done() {
			b.Fatal("not done")
		}
	}
}

func BenchmarkNew(b *testing.B) {
	c := configOf(true)
	for b.Loop() {
		if _, e := shake.New(true, c); e != api.OK {
			b.Fatal(e)
		}
	}
}
