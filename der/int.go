package der

import "cresset/api"

const (
	intTag   = 2
	intBytes = 8
)

// Int is the element of an integer.
func Int(n int) string {
	body := bigEndian(n)
	for hasNeedless(body) {
		body = body[1:]
	}
	return element(intTag, body)
}

// ReadInt is the integer that a body stands for.
func ReadInt(body string) (int, api.Errno) {
	if body == "" {
		return 0, api.ErrEnd
	}
	if hasNeedless(body) {
		return 0, api.ErrBytes
	}
	if len(body) > intBytes {
		return 0, api.ErrBig
	}
	n := int(int8(body[0])) // the first bit is the sign
	for i := 1; i < len(body); i++ {
		n = n<<8 | int(body[i])
	}
	return n, api.OK
}

// bigEndian is all bytes of an integer in two's complement.
func bigEndian(n int) string {
	var b [intBytes]byte
	for i := range b {
		b[intBytes-1-i] = byte(n >> (8 * i))
	}
	return string(b[:])
}

// hasNeedless tells whether a body stands for the same integer without its
// first byte: whether that byte only repeats the sign of those behind it.
func hasNeedless(body string) bool {
	if len(body) < 2 {
		return false
	}
	if body[1] < 0x80 {
		return body[0] == 0x00
	}
	return body[0] == 0xff
}
