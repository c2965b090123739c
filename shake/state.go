package shake

import (
	"strings"

	"cresset/hello"
	"cresset/keys"
)

// Where each of the four secrets lies.
const (
	clientHandshake = iota
	serverHandshake
	clientData
	serverData
)

// state is what a side has come to.
type state struct {
	said      string // the transcript
	accepted  int    // messages of the other side
	suite     int
	handshake string // what all secrets are derived from
	secrets   [4]string
	key       string // of the other side's certificate
	peer      string // its fingerprint
	failed    bool
}

// isStarted tells whether anything was said.
func (s *state) isStarted() bool { return s.said != "" }

// say appends a message to the transcript, and derives the secrets for which
// the transcript now has all that they depend on. Of the two messages Finished
// the server's is the first: there are no secrets of the data yet.
func (s *state) say(kind int, message string) {
	s.said += strings.Clone(message) // nothing and a message is that message itself, which may be an argument
	switch {
	case kind == hello.Server:
		s.secrets[clientHandshake], s.secrets[serverHandshake] = s.derived(s.handshake, "hs")
	case kind == hello.Finished && isHalf(s.secrets):
		s.secrets[clientData], s.secrets[serverData] = s.derived(keys.Master(s.handshake), "ap")
	}
}

// isHalf tells whether the secrets of the handshake are all that there are.
func isHalf(l [4]string) bool {
	return l == [4]string{clientHandshake: l[clientHandshake], serverHandshake: l[serverHandshake]}
}

// derived is the secrets of the client and of the server that a stage has, from
// the one that this stage begins with. There is no error, because the labels
// are short.
func (s *state) derived(from, stage string) (string, string) {
	client, _ := keys.Secret(from, "c "+stage+" traffic", s.said)
	server, _ := keys.Secret(from, "s "+stage+" traffic", s.said)
	return client, server
}

// tag is the one by which the server, or the client, ends the handshake after
// what was said.
func (s *state) tag(server bool) string {
	if server {
		return keys.Tag(s.secrets[serverHandshake], s.said)
	}
	return keys.Tag(s.secrets[clientHandshake], s.said)
}
