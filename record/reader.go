package record

import "cresset/api"

const maxBuffer = 1 << 20 // bytes of a stream that wait in a Reader

// Reader extracts records from a stream of bytes that comes in pieces.
type Reader struct {
	buffer []byte
	broken api.Errno // what is wrong with the stream for good
}

// NewReader is a reader to which nothing has been fed.
func NewReader() *Reader {
	return &Reader{}
}

// Feed appends data to what waits to be read.
func (r *Reader) Feed(data string) api.Errno {
	switch {
	case r == nil:
		return api.ErrNil
	case r.broken != api.OK:
		return r.broken
	case len(data) > maxBuffer-len(r.buffer):
		return api.ErrBig
	}
	r.buffer = append(r.buffer, data...)
	return api.OK
}

// Next is the kind and the body of the next record. Where the stream is
// broken, no record begins any more, so that the rest of it is let go.
func (r *Reader) Next() (int, string, api.Errno) {
	switch {
	case r == nil:
		return 0, "", api.ErrNil
	case r.broken != api.OK:
		return 0, "", r.broken
	}
	kind, body, e := split(r.buffer)
	switch e {
	case api.OK:
		r.buffer = r.buffer[headerBytes+len(body):]
	case api.ErrBusy:
	default:
		r.broken, r.buffer = e, nil
	}
	return kind, body, e
}

// split is the kind and the body of the record with which data begins. What is
// wrong with a header is told as early as it is there to be seen.
func split(data []byte) (int, string, api.Errno) {
	switch {
	case len(data) == 0:
		return 0, "", api.ErrBusy
	case !isKind(int(data[0])):
		return 0, "", api.ErrBytes
	case len(data) > 1 && data[1] != versionByte:
		return 0, "", api.ErrBytes
	case len(data) > 2 && data[2] != versionByte:
		return 0, "", api.ErrBytes
	case len(data) < headerBytes:
		return 0, "", api.ErrBusy
	}
	size, rest := int(data[3])<<8|int(data[4]), data[headerBytes:]
	switch {
	case size > maxBody:
		return 0, "", api.ErrBig
	case len(rest) < size:
		return 0, "", api.ErrBusy
	}
	return int(data[0]), string(rest[:size]), api.OK
}
