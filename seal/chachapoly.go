package seal

import (
	"strings"

	"cresset/api"
	"cresset/chacha"
	"cresset/mac"
	"cresset/poly"
)

const (
	tagBytes  = 16
	unitBytes = 16      // the texts of a tag are filled up to whole units
	maxBytes  = 1 << 20 // of the associated data, and of the plaintext
)

// The block 0 of the key stream holds the key of the tag; the texts are hidden
// by the blocks behind it.
const (
	tagNumber    = 0
	streamNumber = 1
	tagKeyBytes  = 32
)

// chachaSeal is Seal by ChaCha20-Poly1305.
func chachaSeal(key, nonce, beside, plain string) (string, api.Errno) {
	switch {
	case len(key) != chachaKeyBytes, len(nonce) != nonceBytes:
		return "", api.ErrKey
	case len(beside) > maxBytes, len(plain) > maxBytes:
		return "", api.ErrBig
	}
	hidden := xored(key, nonce, plain)
	return hidden + tag(key, nonce, beside, hidden), api.OK
}

// chachaOpen is Open by ChaCha20-Poly1305. Nothing is decrypted ahead of its
// tag being right.
func chachaOpen(key, nonce, beside, sealed string) (string, api.Errno) {
	switch {
	case len(key) != chachaKeyBytes, len(nonce) != nonceBytes:
		return "", api.ErrKey
	case len(sealed) < tagBytes:
		return "", api.ErrTag
	case len(beside) > maxBytes, len(sealed) > maxBytes+tagBytes:
		return "", api.ErrBig
	}
	end := len(sealed) - tagBytes
	hidden := sealed[:end]
	if !mac.Same(tag(key, nonce, beside, hidden), sealed[end:]) {
		return "", api.ErrTag
	}
	return xored(key, nonce, hidden), api.OK
}

// xored is text xor the key stream: the ciphertext of a plaintext, and the
// plaintext of a ciphertext. There is no error, because the key and the nonce
// have been looked at, and a text within the limit needs few blocks.
func xored(key, nonce, text string) string {
	out, _ := chacha.Xor(key, nonce, streamNumber, text)
	return out
}

// tag is the tag of associated data and a ciphertext. There is no error, for
// the same reason, and because a block is longer than the key of a tag.
func tag(key, nonce, beside, hidden string) string {
	block, _ := chacha.Block(key, nonce, tagNumber)
	out, _ := poly.Tag(block[:tagKeyBytes], tagged(beside, hidden))
	return out
}

// tagged is what a tag stands for. The lengths tell where the associated data
// end, and which of the zero bytes were added.
func tagged(beside, hidden string) string {
	return beside + filler(beside) + hidden + filler(hidden) + length(beside) + length(hidden)
}

// filler is the zero bytes that make text one of whole units.
func filler(text string) string {
	return strings.Repeat("\x00", (unitBytes-len(text)%unitBytes)%unitBytes)
}

// length is how many bytes text has, little-endian.
func length(text string) string {
	var b [numberBytes]byte
	for i := range b {
		b[i] = byte(uint64(len(text)) >> (8 * i))
	}
	return string(b[:])
}
