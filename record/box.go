package record

import (
	"strings"

	"cresset/api"
	"cresset/seal"
)

const (
	ivBytes   = 12
	tagBytes  = 16    // that an encrypted body has more than its plaintext
	maxPadded = 16600 // bytes of what is encrypted and its padding
	maxCount  = 65536 // records of a box
)

// Box encrypts records, or decrypts them, one after the other.
type Box struct {
	suite   int
	key, iv string
	count   int // the sequence number of the next record
}

// NewBox is a box of a suite, with a key and an iv, for records from number 0
// on.
func NewBox(suite int, key, iv string) (*Box, api.Errno) {
	size := seal.Size(suite)
	switch {
	case size == 0:
		return nil, api.ErrArg
	case len(key) != size || len(iv) != ivBytes:
		return nil, api.ErrKey
	}
	return &Box{suite: suite, key: strings.Clone(key), iv: strings.Clone(iv)}, api.OK
}

// Seal is the encrypted record of a kind and plain, with pad zero bytes that
// hide how long plain is. A Box that NewBox has not made has no suite, and so
// package seal refuses it.
func (b *Box) Seal(kind int, plain string, pad int) (string, api.Errno) {
	switch {
	case b == nil:
		return "", api.ErrNil
	case !isKind(kind) || pad < 0:
		return "", api.ErrArg
	case len(plain) > api.MaxPlain || pad > maxPadded-len(plain):
		return "", api.ErrBig
	case b.count == maxCount:
		return "", api.ErrSeq
	}
	inner := padded(kind, plain, pad)
	head := header(dataKind, len(inner)+tagBytes)
	body, e := seal.Seal(b.suite, b.key, b.nonce(), head, inner)
	if e != api.OK {
		return "", e
	}
	b.count++
	return head + body, api.OK
}

// Open is the kind and the bytes that are encrypted in the body of a record.
func (b *Box) Open(body string) (int, string, api.Errno) {
	switch {
	case b == nil:
		return 0, "", api.ErrNil
	case b.count == maxCount:
		return 0, "", api.ErrSeq
	case len(body) > maxBody:
		return 0, "", api.ErrTag
	}
	inner, e := seal.Open(b.suite, b.key, b.nonce(), header(dataKind, len(body)), body)
	if e != api.OK {
		return 0, "", e
	}
	kind, plain, e := unpadded(inner)
	if e == api.OK {
		b.count++
	}
	return kind, plain, e
}

// Count is the sequence number of the next record.
func (b *Box) Count() int {
	if b == nil {
		return 0
	}
	return b.count
}

// nonce is that of the next record.
func (b *Box) nonce() string {
	nonce, _ := seal.Nonce(b.iv, b.count)
	return nonce
}

// padded is what is encrypted of a record: the kind marks where plain ends and
// the zero bytes begin.
func padded(kind int, plain string, pad int) string {
	return plain + string([]byte{byte(kind)}) + strings.Repeat("\x00", pad)
}

// unpadded is the kind and the bytes of what was encrypted.
func unpadded(inner string) (int, string, api.Errno) {
	marked := strings.TrimRight(inner, "\x00")
	size := len(marked) - 1
	switch {
	case size < 0 || !isKind(int(marked[size])):
		return 0, "", api.ErrBytes
	case size > api.MaxPlain:
		return 0, "", api.ErrBig
	}
	return int(marked[size]), marked[:size], api.OK
}
