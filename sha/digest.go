package sha

import "strings"

// running is a digest under way: the state after the blocks that are full,
// the bytes that do not fill a block yet, and the length of all data.
type running[W word] struct {
	state  [8]W
	rest   string
	length uint64
}

// digest is what both functions come to, each with its words and parameters.
func digest[W word](p parameters, data string) string {
	r := start[W](p)
	r.write(p, data)
	return r.sum(p)
}

// start is a digest to which nothing has been written.
func start[W word](p parameters) running[W] {
	var r running[W]
	for i := range r.state {
		r.state[i] = W(initialValues[i] >> p.unused())
	}
	return r
}

// write appends data. The bytes that fill no block are cloned, because a mere
// piece of data would keep the whole of it in memory.
func (r *running[W]) write(p parameters, data string) {
	r.length += uint64(len(data))
	if r.rest != "" {
		n := min(p.block-len(r.rest), len(data))
		r.rest += data[:n]
		data = data[n:]
		if len(r.rest) < p.block {
			return
		}
		r.state = compress(p, r.state, r.rest)
	}
	for len(data) >= p.block {
		r.state = compress(p, r.state, data[:p.block])
		data = data[p.block:]
	}
	r.rest = strings.Clone(data)
}

// sum is the digest of what has been written. It pads a copy, so that more can
// be written to the original.
func (r running[W]) sum(p parameters) string {
	r.write(p, padding(p, r.length))
	out := make([]byte, 0, 8*p.wordBytes())
	for _, v := range r.state {
		for shift := p.wordBits(); shift > 0; {
			shift -= 8
			out = append(out, byte(v>>shift))
		}
	}
	return string(out)
}

// padding is what follows data of so many bytes: the byte 128, zero bytes up
// to the length field, and the length field.
func padding(p parameters, length uint64) string {
	used := int(length%uint64(p.block)) + 1 + p.lengthBytes()
	zeros := (2*p.block - used) % p.block
	pad := make([]byte, 1+zeros+p.lengthBytes())
	pad[0] = 128
	bits := length * 8
	for i := len(pad) - 1; bits > 0; i-- {
		pad[i] = byte(bits)
		bits >>= 8
	}
	return string(pad)
}
