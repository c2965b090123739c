package shake

import (
	"cresset/api"
	"cresset/hello"
	"cresset/keys"
	"cresset/ladder"
	"cresset/sign"
)

// response is the messages to be sent after one of a kind. New has looked at
// all that they consist of, so that there are no errors.
func (s *Side) response(kind int) []string {
	switch {
	case kind == hello.Client:
		return append(s.answer(), s.proof()...)
	case kind == hello.Finished && !s.server:
		return s.proof()
	}
	return nil
}

// answer is what a server says to a client whoever that is.
func (s *Side) answer() []string {
	server, _ := s.send(s.offer(hello.Server, []int{s.suite}))
	encrypted, _ := s.send(hello.Message{Kind: hello.Encrypted})
	request, _ := s.send(hello.Message{Kind: hello.Request})
	return []string{server, encrypted, request}
}

// proof is how a side shows who it is, and that it heard and said the same as
// the other one. Each message stands for all that were said ahead of it, so
// that they are sent one after the other.
func (s *Side) proof() []string {
	certificate, _ := s.send(hello.Message{Kind: hello.Certificate, Data: s.own.Cert})
	signature, _ := sign.Sign(s.own.Seed, keys.Signed(s.server, s.said))
	verify, _ := s.send(hello.Message{Kind: hello.Verify, Data: signature})
	finished, _ := s.send(hello.Message{Kind: hello.Finished, Data: s.tag(s.server)})
	return []string{certificate, verify, finished}
}

// offer is a Client or a Server.
func (s *Side) offer(kind int, suites []int) hello.Message {
	share, _ := ladder.Public(s.own.Secret)
	return hello.Message{Kind: kind, Random: s.own.Random, Share: share, Suites: suites}
}

// send is a message as bytes. From then on it has been said.
func (s *Side) send(m hello.Message) (string, api.Errno) {
	message, e := hello.Encode(m)
	if e != api.OK {
		return "", e
	}
	s.say(m.Kind, message)
	return message, api.OK
}
