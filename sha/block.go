package sha

// word is a word of the state: 32 bits for SHA-256, 64 bits for SHA-512.
type word interface{ uint32 | uint64 }

// parameters is what the two functions differ in. The other sizes follow from
// the block, which always has sixteen words.
type parameters struct {
	block  int // bytes
	rounds int
	s0, s1 [3]uint // two rotations and a shift
	x, y   [3]uint // three rotations
}

func parameters256() parameters {
	return parameters{
		block:  64,
		rounds: 64,
		s0:     [3]uint{7, 18, 3},
		s1:     [3]uint{17, 19, 10},
		x:      [3]uint{6, 11, 25},
		y:      [3]uint{2, 13, 22},
	}
}

func parameters512() parameters {
	return parameters{
		block:  128,
		rounds: 80,
		s0:     [3]uint{1, 8, 7},
		s1:     [3]uint{19, 61, 6},
		x:      [3]uint{14, 18, 41},
		y:      [3]uint{28, 34, 39},
	}
}

func (p parameters) wordBytes() int   { return p.block / 16 }
func (p parameters) wordBits() uint   { return uint(p.block) / 2 }
func (p parameters) lengthBytes() int { return p.block / 8 }

// unused is how many low bits of a constant of 64 bits a word leaves out.
func (p parameters) unused() uint { return 64 - p.wordBits() }

// compress is the state after one more block.
func compress[W word](p parameters, state [8]W, block string) [8]W {
	w := schedule[W](p, block)
	bits, unused := p.wordBits(), p.unused()
	a, b, c, d := state[0], state[1], state[2], state[3]
	e, f, g, h := state[4], state[5], state[6], state[7]
	for t := range p.rounds {
		k := W(roundConstants[t] >> unused)
		x := h + rotations(e, p.x, bits) + ((e & f) ^ (^e & g)) + k + w[t]
		y := rotations(a, p.y, bits) + ((a & b) ^ (a & c) ^ (b & c))
		h, g, f, e, d, c, b, a = g, f, e, d+x, c, b, a, x+y
	}
	for i, v := range [8]W{a, b, c, d, e, f, g, h} {
		state[i] += v
	}
	return state
}

// schedule is the words of a block and those that follow from them, one for
// each round; SHA-256 leaves the last sixteen of the eighty alone.
func schedule[W word](p parameters, block string) [80]W {
	var w [80]W
	size, bits := p.wordBytes(), p.wordBits()
	for t := range 16 {
		w[t] = load[W](block[t*size : (t+1)*size])
	}
	for t := 16; t < p.rounds; t++ {
		w[t] = w[t-16] + w[t-7] + shifted(w[t-15], p.s0, bits) + shifted(w[t-2], p.s1, bits)
	}
	return w
}

// load is the word whose bytes are s, big-endian.
func load[W word](s string) W {
	var v W
	for i := range len(s) {
		v = v<<8 | W(s[i])
	}
	return v
}

func rotations[W word](v W, by [3]uint, bits uint) W {
	return rotr(v, by[0], bits) ^ rotr(v, by[1], bits) ^ rotr(v, by[2], bits)
}

func shifted[W word](v W, by [3]uint, bits uint) W {
	return rotr(v, by[0], bits) ^ rotr(v, by[1], bits) ^ v>>by[2]
}

// rotr is v, a word of so many bits, rotated right by n.
func rotr[W word](v W, n, bits uint) W { return v>>n | v<<(bits-n) }
