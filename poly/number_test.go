package poly

import (
	"math/big"
	"testing"
)

// value is the integer whose limbs are a.
func value(a number) *big.Int {
	out := new(big.Int)
	for i := limbs - 1; i >= 0; i-- {
		out.Lsh(out, limbBits).Add(out, new(big.Int).SetUint64(a[i]))
	}
	return out
}

func prime() *big.Int {
	p := new(big.Int).Lsh(big.NewInt(1), 130)
	return p.Sub(p, big.NewInt(5))
}

func level(v uint64) number { return number{v, v, v, v, v} }

// greatest is more than any sum that times is given: a product and a piece.
func greatest() number {
	return level(limbMask).plus(level(limbMask)).plus(number{wrap})
}

// edges are numbers with limbs as small and as great as they come.
func edges() []number {
	out := []number{{}, {1}, level(1), level(limbMask), greatest()}
	for i := range limbs {
		var one, all number
		one[i], all[i] = 1, limbMask
		rest := level(limbMask)
		rest[i] = 0
		great := greatest()
		great[i] = 0
		out = append(out, one, all, rest, great)
	}
	return out
}

// P4.1: a product of the greatest limbs is right, and its own limbs are no
// greater than what the next one and the last reduction count on.
func TestProductsAtTheEdges(t *testing.T) {
	for _, a := range edges() {
		for _, r := range edges() {
			r, _ = r.spread()
			got := a.times(r)
			want := new(big.Int).Mul(value(a), value(r))
			want.Mod(want, prime())
			if new(big.Int).Mod(value(got), prime()).Cmp(want) != 0 {
				t.Errorf("%x times %x = %x", a, r, got)
			}
			for i, v := range got {
				if v > limbMask && (i > 0 || v > limbMask+wrap-1) {
					t.Errorf("%x times %x = %x: the limb %d is too great", a, r, got, i)
				}
			}
			if value(got.reduced()).Cmp(want) != 0 {
				t.Errorf("%x reduced = %x", got, got.reduced())
			}
		}
	}
}

// P4.1: the last reduction of everything beside p and 2^130, in limbs of 26
// bits and with a lowest limb of a little more.
func TestReductionBesideThePrime(t *testing.T) {
	for low := uint64(limbMask - 20); low < limbMask+wrap; low++ {
		for _, second := range []uint64{0, 1, limbMask - 1, limbMask} {
			for _, top := range []uint64{0, 1, limbMask - 1, limbMask} {
				a := number{low, second, limbMask, limbMask, top}
				if low > limbMask && second == limbMask && top == limbMask {
					continue // times never answers it: 2^130 and more
				}
				want := new(big.Int).Mod(value(a), prime())
				if got := a.reduced(); value(got).Cmp(want) != 0 {
					t.Errorf("%x reduced = %x", a, got)
				}
			}
		}
	}
}
