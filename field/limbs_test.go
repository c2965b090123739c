package field

import (
	"math/big"
	"testing"
)

// value is the integer whose limbs are a.
func value(a limbs) *big.Int {
	out := new(big.Int)
	for i := limbCount - 1; i >= 0; i-- {
		out.Lsh(out, 64).Add(out, new(big.Int).SetUint64(a[i]))
	}
	return out
}

// whole is low + over 2^256.
func whole(low limbs, over uint64) *big.Int {
	out := new(big.Int).SetUint64(over)
	return out.Lsh(out, 256).Add(out, value(low))
}

func modulus() *big.Int {
	p := new(big.Int).Lsh(big.NewInt(1), 255)
	return p.Sub(p, big.NewInt(19))
}

// words are the least and the greatest of them, and those around the borders
// that the reduction looks at.
func words() []uint64 {
	out := []uint64{0, 1, 18, 19, 38, 1<<63 - 1, 1 << 63, 1<<63 + 1, 1<<64 - 1}
	for n := uint64(1); n <= 80; n += 13 {
		out = append(out, -(wrapAt255 * n), -(wrapAt255*n)-1)
	}
	return out
}

// edges are integers with limbs as small and as great as they come, also one
// of them alone.
func edges() []limbs {
	var out []limbs
	for _, a := range []uint64{0, 1, 1<<64 - 1} {
		for _, b := range []uint64{0, 1, 1<<64 - 1} {
			for _, c := range []uint64{0, 1<<64 - 1} {
				for _, d := range []uint64{0, 1<<63 - 1, 1 << 63, 1<<64 - 1} {
					out = append(out, limbs{a, b, c, d})
				}
			}
		}
	}
	return append(out, prime, limbs{1, 2, 3, 4}, limbs{1 << 63, 1 << 62, 1 << 61, 1 << 60})
}

// P8.2: a sum and a product of words at their greatest still have two words.
func TestSumAndProduct(t *testing.T) {
	for _, a := range words() {
		for _, b := range words() {
			for _, c := range words() {
				for _, d := range words() {
					low, high := sumAndProduct(a, b, c, d)
					want := new(big.Int).SetUint64(c)
					want.Mul(want, new(big.Int).SetUint64(d))
					want.Add(want, new(big.Int).SetUint64(a)).Add(want, new(big.Int).SetUint64(b))
					if value(limbs{low, high}).Cmp(want) != 0 {
						t.Fatalf("%x + %x + %x %x = %x, %x", a, b, c, d, high, low)
					}
				}
			}
		}
	}
}

// P8.2: the products of any limbs, and sums with a product of one word.
func TestProductsOfLimbs(t *testing.T) {
	for _, a := range edges() {
		for _, b := range edges() {
			low, high := a.times(b)
			got := new(big.Int).Lsh(value(high), 256)
			want := new(big.Int).Mul(value(a), value(b))
			if got.Add(got, value(low)).Cmp(want) != 0 {
				t.Errorf("%x times %x = %x, %x", a, b, high, low)
			}
			for _, v := range words() {
				sum, over := a.plusTimes(b, v)
				want := new(big.Int).Mul(value(b), new(big.Int).SetUint64(v))
				if whole(sum, over).Cmp(want.Add(want, value(a))) != 0 {
					t.Errorf("%x + %x %x = %x, %x", a, b, v, over, sum)
				}
			}
		}
	}
}

// P8.2: sums and differences carry through all limbs.
func TestCarriesOfLimbs(t *testing.T) {
	top := new(big.Int).Lsh(big.NewInt(1), 256)
	for _, a := range edges() {
		for _, b := range edges() {
			want := new(big.Int).Add(value(a), value(b))
			if got := value(a.plus(b)); got.Cmp(want.Mod(want, top)) != 0 {
				t.Errorf("%x + %x = %x", a, b, got)
			}
			want.Sub(value(a), value(b))
			if want.Sign() >= 0 && value(a.minus(b)).Cmp(want) != 0 {
				t.Errorf("%x - %x = %x", a, b, a.minus(b))
			}
		}
		for _, v := range words() {
			want := new(big.Int).SetUint64(v)
			want.Add(want, value(a)).Mod(want, top)
			if got := value(a.plusWord(v)); got.Cmp(want) != 0 {
				t.Errorf("%x + %x = %x", a, v, got)
			}
		}
	}
}

// P8.1, P8.2: the reduction of everything beside multiples of p, of 2^255 and
// of 2^256, with as much over as a product leaves at most.
func TestReductionBesideMultiples(t *testing.T) {
	const most = wrapAt256
	low := uint64(1<<64 - 1)
	for over := range uint64(most + 1) {
		check := func(a limbs) {
			want := new(big.Int).Mod(whole(a, over), modulus())
			if got := reduced(a, over); value(got.limbs).Cmp(want) != 0 {
				t.Errorf("%x and %x over, reduced = %x", a, over, got.limbs)
			}
		}
		for _, a := range edges() {
			check(a)
		}
		for d := range uint64(3 * wrapAt255 * (most + 1)) {
			check(limbs{d})
			check(limbs{d, 0, 0, 1 << 63})
			check(limbs{low - d, low, low, low})
			check(limbs{low - d, low, low, 1<<63 - 1})
		}
	}
}
