package shake

import (
	"slices"

	"cresset/api"
	"cresset/cert"
	"cresset/hello"
	"cresset/keys"
	"cresset/ladder"
	"cresset/mac"
	"cresset/sign"
)

// expected is the kinds of messages that a side has to accept, in order.
func expected(server bool) []int {
	if server {
		return []int{hello.Client, hello.Certificate, hello.Verify, hello.Finished}
	}
	return []int{hello.Server, hello.Encrypted, hello.Request, hello.Certificate, hello.Verify, hello.Finished}
}

// isComplete tells whether all of them were accepted.
func (s *Side) isComplete() bool {
	return s.accepted == len(expected(s.server))
}

// accept is the kind of a message that the other side said, unless something is
// wrong with it: then nothing has changed.
func (s *Side) accept(data string) (int, api.Errno) {
	if s.isComplete() || !s.server && !s.isStarted() {
		return 0, api.ErrMsg
	}
	m, rest, e := hello.Decode(data)
	switch {
	case e != api.OK || rest != "":
		return 0, api.ErrBytes
	case m.Kind != expected(s.server)[s.accepted]:
		return 0, api.ErrMsg
	}
	if e := s.learn(m); e != api.OK {
		return 0, e
	}
	s.accepted++
	s.say(m.Kind, data)
	return m.Kind, api.OK
}

// learn keeps what a message says, if that is right.
func (s *Side) learn(m hello.Message) api.Errno {
	switch m.Kind {
	case hello.Client, hello.Server:
		return s.agree(m.Suites, m.Share)
	case hello.Certificate:
		return s.identify(m.Data)
	case hello.Verify:
		if sign.Verify(s.key, keys.Signed(!s.server, s.said), m.Data) != api.OK {
			return api.ErrSig
		}
	case hello.Finished:
		if !mac.Same(m.Data, s.tag(!s.server)) {
			return api.ErrTag
		}
	}
	return api.OK
}

// agree keeps the suite of both sides, and what they come to.
func (s *Side) agree(suites []int, share string) api.Errno {
	i := slices.IndexFunc(s.own.Suites, func(n int) bool { return slices.Contains(suites, n) })
	if i < 0 {
		return api.ErrMsg
	}
	shared, e := ladder.Share(s.own.Secret, share)
	if e != api.OK {
		return e
	}
	s.suite, s.handshake = s.own.Suites[i], keys.Handshake(shared)
	return api.OK
}

// identify keeps who the other side is.
func (s *Side) identify(certificate string) api.Errno {
	if e := cert.Allow(certificate, s.own.Now, s.own.Prints...); e != api.OK {
		return e
	}
	c, _ := cert.Read(certificate) // Allow has read it, too
	s.key, s.peer = c.Key, cert.Print(certificate)
	return api.OK
}
