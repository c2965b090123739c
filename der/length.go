package der

import "cresset/api"

// shortLengths is how many lengths are a byte of their own. The first byte of
// the others is this number and how many bytes there are behind it.
const shortLengths = 128

// lengthOf is a length encoded.
func lengthOf(n int) string {
	switch {
	case n < shortLengths:
		return string([]byte{byte(n)})
	case n < 256:
		return string([]byte{shortLengths + 1, byte(n)})
	}
	return string([]byte{shortLengths + 2, byte(n >> 8), byte(n)})
}

// splitLength is the length with which data begins, and the bytes after it.
func splitLength(data string) (int, string, api.Errno) {
	if data == "" {
		return 0, "", api.ErrEnd
	}
	n, rest := int(data[0]), data[1:]
	if n < shortLengths {
		return n, rest, api.OK
	}
	further := n - shortLengths
	if further == 0 || further > 2 {
		return 0, "", api.ErrBytes
	}
	if len(rest) < further {
		return 0, "", api.ErrEnd
	}
	n = 0
	for i := range further {
		n = n<<8 | int(rest[i])
	}
	if lengthOf(n) != data[:1+further] {
		return 0, "", api.ErrBytes
	}
	return n, rest[further:], api.OK
}
