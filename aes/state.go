package aes

import "math/bits"

const (
	columns    = 4
	rows       = 4
	blockBytes = columns * rows
	rounds     = 10
)

// state is sixteen bytes in columns, one column after the other. A round key
// has the same form: its words are the columns.
type state [blockBytes]byte

// schedule is the round keys: one ahead of the rounds, and one a round.
type schedule [1 + rounds]state

// stateOf is the state of a block, or the round key that is a key.
func stateOf(block string) state {
	var s state
	copy(s[:], block)
	return s
}

// encrypted is the state after all rounds. The last one leaves the columns
// unmixed.
func (s state) encrypted(keys schedule) state {
	s = s.plus(keys[0])
	for _, k := range keys[1:rounds] {
		s = s.swapped().shifted().mixed().plus(k)
	}
	return s.swapped().shifted().plus(keys[rounds])
}

// plus is the sum of the states, byte by byte.
func (s state) plus(k state) state {
	for i := range blockBytes {
		s[i] ^= k[i]
	}
	return s
}

// swapped is the state with Swap applied to each byte: two columns at a time,
// as many as lanes have room for.
func (s state) swapped() state {
	for half := range 2 {
		part := s[8*half : 8*half+8]
		store(part, load(part).swapped())
	}
	return s
}

// shifted is the state with each row r rotated to the left by r columns.
func (s state) shifted() state {
	var out state
	for c := range columns {
		for r := range rows {
			out[rows*c+r] = s[rows*((c+r)%columns)+r]
		}
	}
	return out
}

// mixed is the state with its columns replaced by their mixtures.
func (s state) mixed() state {
	for c := range columns {
		column := s.column(c)
		store(column, mixture(load(column)))
	}
	return s
}

// mixture is what replaces a column: 2a + 3b + c + d for each of its bytes a
// and those below it, b, c and d, behind the last of which comes the first.
func mixture(column lanes) lanes {
	b, c, d := upward(column, 1), upward(column, 2), upward(column, 3)
	return (column ^ b).doubled() ^ b ^ c ^ d
}

// upward is a column whose bytes have moved up by n rows, and around.
func upward(column lanes, n int) lanes {
	return lanes(bits.RotateLeft32(uint32(column), -8*n))
}

// roundKeys is the round keys of a key.
func roundKeys(key string) schedule {
	var keys schedule
	keys[0] = stateOf(key)
	power := lanes(1)
	for i := range rounds {
		keys[i+1] = keys[i].next(power)
		power = power.doubled()
	}
	return keys
}

// next is the round key behind k. power is added to the first byte of the word
// that k's last one becomes.
func (k state) next(power lanes) state {
	word := upward(load(k.column(columns-1)), 1).swapped() ^ power
	for c := range columns {
		column := k.column(c)
		word ^= load(column)
		store(column, word)
	}
	return k
}

// column is the four bytes of a column, where they lie.
func (s *state) column(c int) []byte { return s[rows*c : rows*c+rows] }
