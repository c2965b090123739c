package gcm

const (
	wordBits  = 64
	wordBytes = wordBits / 8
)

// wrap is what x^128 is modulo the polynomial of GCM: x^7 + x^2 + x + 1, as it
// lies in the first word.
const wrap = 0xe1 << (wordBits - 8)

// polynomial is the coefficients of the powers from 0 to 63 and from 64 to 127,
// the lowest power in the highest bit, as in a block. Two words of a struct,
// unlike those of an array, stay in registers, which products profit from.
type polynomial struct{ first, second uint64 }

// polynomial is that of a block.
func (b block) polynomial() polynomial {
	return polynomial{number(b[:wordBytes]), number(b[wordBytes:])}
}

// block is the block whose polynomial is p.
func (p polynomial) block() block { return blockOfTwo(p.first, p.second) }

// plus is the sum of the polynomials.
func (p polynomial) plus(q polynomial) polynomial {
	return polynomial{p.first ^ q.first, p.second ^ q.second}
}

// times is the product of the polynomials, power by power of q. It does the
// same for each of them, so that the time it takes does not tell what they are.
func (p polynomial) times(q polynomial) polynomial {
	var out polynomial
	for _, w := range [...]uint64{q.first, q.second} {
		for range wordBits {
			out = out.plus(p.only(w >> (wordBits - 1)))
			p, w = p.raised(), w<<1
		}
	}
	return out
}

// only is p if the bit is 1, and nothing if it is 0.
func (p polynomial) only(bit uint64) polynomial {
	return polynomial{p.first & -bit, p.second & -bit}
}

// raised is the product of p and x: each bit moves on by one, and the one that
// falls out at the end is wrapped.
func (p polynomial) raised() polynomial {
	over := -(p.second & 1)
	return polynomial{p.first>>1 ^ over&wrap, p.second>>1 | p.first<<(wordBits-1)}
}
