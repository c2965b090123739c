package shake_test

import (
	"slices"
	"strings"
	"testing"

	"cresset/api"
	"cresset/cert"
	"cresset/hello"
	"cresset/keys"
	"cresset/ladder"
	"cresset/shake"
	"cresset/sign"
)

// model is a side by the chapter's words, sentence by sentence, on the layers
// below.
type model struct {
	server bool
	c      shake.Config
	said   []string // the messages of the transcript
	taken  int      // how many of them the other side sent
	failed bool
	suite  int
	shared string
	shown  string // the certificate that was accepted
}

// newModel is P18.1.
func newModel(server bool, c shake.Config) (*model, api.Errno) {
	if len(c.Suites) == 0 || len(c.Suites) > 4 {
		return nil, api.ErrArg
	}
	for _, n := range c.Suites {
		if n != gcmSuite && n != chachaSuite {
			return nil, api.ErrArg
		}
	}
	if len(c.Random) != 32 || len(c.Secret) != 32 {
		return nil, api.ErrKey
	}
	own, e := cert.Read(c.Cert)
	if e != api.OK {
		return nil, api.ErrKey
	}
	if key, e := sign.Public(c.Seed); e != api.OK || key != own.Key {
		return nil, api.ErrKey
	}
	c.Suites, c.Prints = slices.Clone(c.Suites), slices.Clone(c.Prints)
	return &model{server: server, c: c}, api.OK
}

func (m *model) transcript() string { return strings.Join(m.said, "") }

// isSaid is whether the transcript has a message of a kind, and what was said
// up to the first of them.
func (m *model) isSaid(kind int) (bool, string) {
	for i, s := range m.said {
		if s[0] == byte(kind) {
			return true, strings.Join(m.said[:i+1], "")
		}
	}
	return false, ""
}

// expected is the chapter's word.
func (m *model) expected() []int {
	if m.server {
		return []int{hello.Client, hello.Certificate, hello.Verify, hello.Finished}[m.taken:]
	}
	if len(m.said) == 0 {
		return nil
	}
	return []int{hello.Server, hello.Encrypted, hello.Request, hello.Certificate, hello.Verify, hello.Finished}[m.taken:]
}

// start is P18.2.
func (m *model) start() (string, api.Errno) {
	if m.failed {
		return "", api.ErrClosed
	}
	if m.server || len(m.said) > 0 {
		return "", api.ErrMsg
	}
	share, _ := ladder.Public(m.c.Secret)
	return m.send(hello.Message{Kind: hello.Client, Random: m.c.Random, Share: share, Suites: m.c.Suites}), api.OK
}

// take is P18.3.
func (m *model) take(data string) ([]string, api.Errno) {
	if m.failed {
		return nil, api.ErrClosed
	}
	got, e := m.judged(data)
	if e != api.OK {
		m.failed = true
		return nil, e
	}
	m.taken++
	m.said = append(m.said, data)
	switch {
	case got.Kind == hello.Client:
		share, _ := ladder.Public(m.c.Secret)
		out := []string{
			m.send(hello.Message{Kind: hello.Server, Random: m.c.Random, Share: share, Suites: []int{m.suite}}),
			m.send(hello.Message{Kind: hello.Encrypted}),
			m.send(hello.Message{Kind: hello.Request}),
		}
		return append(out, m.last(1)...), api.OK
	case got.Kind == hello.Finished && !m.server:
		return m.last(0), api.OK
	}
	return nil, api.OK
}

// last is the last three messages of a side, which has a place among the
// secrets.
func (m *model) last(place int) []string {
	first := m.send(hello.Message{Kind: hello.Certificate, Data: m.c.Cert})
	signature, _ := sign.Sign(m.c.Seed, keys.Signed(m.server, m.transcript()))
	second := m.send(hello.Message{Kind: hello.Verify, Data: signature})
	third := m.send(hello.Message{Kind: hello.Finished, Data: keys.Tag(m.secrets()[place], m.transcript())})
	return []string{first, second, third}
}

func (m *model) send(x hello.Message) string {
	s, _ := hello.Encode(x)
	m.said = append(m.said, s)
	return s
}

// judged is a message, and the first error that it has.
func (m *model) judged(data string) (hello.Message, api.Errno) {
	if len(m.expected()) == 0 {
		return hello.Message{}, api.ErrMsg
	}
	got, rest, e := hello.Decode(data)
	if e != api.OK || rest != "" {
		return got, api.ErrBytes
	}
	if got.Kind != m.expected()[0] {
		return got, api.ErrMsg
	}
	switch got.Kind {
	case hello.Client, hello.Server:
		return got, m.agreed(got)
	case hello.Certificate:
		if e := cert.Allow(got.Data, m.c.Now, m.c.Prints...); e != api.OK {
			return got, e
		}
		m.shown = got.Data
	case hello.Verify:
		c, _ := cert.Read(m.shown)
		if sign.Verify(c.Key, keys.Signed(!m.server, m.transcript()), got.Data) != api.OK {
			return got, api.ErrSig
		}
	case hello.Finished:
		others := m.secrets()[0]
		if !m.server {
			others = m.secrets()[1]
		}
		if got.Data != keys.Tag(others, m.transcript()) {
			return got, api.ErrTag
		}
	}
	return got, api.OK
}

// agreed is the error of a Client or a Server, whose suite is one of a list of
// one.
func (m *model) agreed(got hello.Message) api.Errno {
	for _, own := range m.c.Suites {
		for _, n := range got.Suites {
			if own == n {
				shared, e := ladder.Share(m.c.Secret, got.Share)
				if e == api.OK {
					m.suite, m.shared = own, shared
				}
				return e
			}
		}
	}
	return api.ErrMsg
}

// done, secrets and peer are P18.4.
func (m *model) done() bool {
	return !m.failed && m.taken > 0 && len(m.expected()) == 0
}

func (m *model) secrets() [4]string {
	var l [4]string
	h := keys.Handshake(m.shared)
	if is, said := m.isSaid(hello.Server); is {
		l[0], _ = keys.Secret(h, "c hs traffic", said)
		l[1], _ = keys.Secret(h, "s hs traffic", said)
	}
	if is, said := m.isSaid(hello.Finished); is {
		l[2], _ = keys.Secret(keys.Master(h), "c ap traffic", said)
		l[3], _ = keys.Secret(keys.Master(h), "s ap traffic", said)
	}
	return l
}

func (m *model) peer() string {
	if m.shown == "" {
		return ""
	}
	return cert.Print(m.shown)
}

// pair is a side and its model, to which the same is done.
type pair struct {
	t testing.TB
	s *shake.Side
	m *model
}

func newPair(t testing.TB, server bool, c shake.Config) *pair {
	t.Helper()
	s, e := shake.New(server, c)
	m, want := newModel(server, c)
	if s == nil || e != api.OK || want != api.OK {
		t.Fatalf("New(%v, %+v): %v, %v, not %v", server, c, s != nil, e, want)
	}
	p := &pair{t, s, m}
	p.check()
	return p
}

// check holds the state against the model's.
func (p *pair) check() {
	p.t.Helper()
	if got, want := p.s.Done(), p.m.done(); got != want {
		p.t.Errorf("Done() = %v, not %v", got, want)
	}
	if got := p.s.Suite(); got != p.m.suite {
		p.t.Errorf("Suite() = %d, not %d", got, p.m.suite)
	}
	if got, want := p.s.Secrets(), p.m.secrets(); got != want {
		p.t.Errorf("Secrets() = %x, not %x", got, want)
	}
	if got, want := p.s.Peer(), p.m.peer(); got != want {
		p.t.Errorf("Peer() = %x, not %x", got, want)
	}
}

func (p *pair) start() (string, api.Errno) {
	p.t.Helper()
	want, wantError := p.m.start()
	if got, e := p.s.Start(); got != want || e != wantError {
		p.t.Errorf("Start() = %x, %v, not %x, %v", got, e, want, wantError)
	}
	p.check()
	return want, wantError
}

func (p *pair) take(data string) ([]string, api.Errno) {
	p.t.Helper()
	want, wantError := p.m.take(data)
	if got, e := p.s.Take(data); !slices.Equal(got, want) || e != wantError {
		p.t.Errorf("Take(%x) = %x, %v, not %x, %v", data, got, e, want, wantError)
	}
	p.check()
	return want, wantError
}

// takes takes a message, whose error is known beside the model's.
func (p *pair) takes(data string, want api.Errno) []string {
	p.t.Helper()
	out, e := p.take(data)
	if e != want {
		p.t.Errorf("Take(%x): %v, not %v", data, e, want)
	}
	return out
}

// takesAll takes messages that are right, and is all that was answered.
func (p *pair) takesAll(messages ...string) []string {
	p.t.Helper()
	var out []string
	for _, m := range messages {
		out = append(out, p.takes(m, api.OK)...)
	}
	return out
}

// isClosed looks at a side behind a failure: nothing changes any more.
func (p *pair) isClosed(messages ...string) {
	p.t.Helper()
	for _, m := range messages {
		p.takes(m, api.ErrClosed)
		if _, e := p.start(); e != api.ErrClosed {
			p.t.Errorf("Start() behind a failure: %v", e)
		}
	}
}
