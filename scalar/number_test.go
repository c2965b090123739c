package scalar

import (
	"math/big"
	"testing"
)

// value is the integer whose limbs are a, whatever they are.
func value(a number) *big.Int {
	out := new(big.Int)
	for i := limbs - 1; i >= 0; i-- {
		out.Lsh(out, limbBits).Add(out, big.NewInt(a[i]))
	}
	return out
}

// of is v, with all that passes 2^252 in the top limb.
func of(v *big.Int) number {
	var a number
	v = new(big.Int).Set(v)
	for i := range top {
		a[i] = new(big.Int).And(v, big.NewInt(limbMask)).Int64()
		v.Rsh(v, limbBits)
	}
	a[top] = v.Int64()
	return a
}

func modulus() *big.Int {
	rest, _ := new(big.Int).SetString("27742317777372353535851937790883648493", 10)
	return rest.Add(rest, new(big.Int).Lsh(big.NewInt(1), 252))
}

// level is a number with seven limbs alike.
func level(v, last int64) number {
	a := number{top: last}
	for i := range top {
		a[i] = v
	}
	return a
}

// words are limbs as products and differences leave them, and those around the
// borders of 36 bits.
func words() []int64 {
	out := []int64{0, 1, 511, limbMask, 511 * limbMask}
	for _, v := range []int64{1, 2, 510, 511} {
		out = append(out, v<<limbBits, v<<limbBits-1, v<<limbBits+1)
	}
	for _, v := range out[1:] {
		out = append(out, -v)
	}
	return out
}

// checkLimbs holds that all limbs but the top one have 36 bits.
func checkLimbs(t *testing.T, a number) {
	t.Helper()
	for _, v := range a[:top] {
		if v < 0 || v > limbMask {
			t.Errorf("%x has a limb of %x", a, v)
		}
	}
}

// checkReduced holds the reduction of a, and the form of its answer.
func checkReduced(t *testing.T, a number) {
	t.Helper()
	want := new(big.Int).Mod(value(a), modulus())
	got := a.reduced()
	if value(got).Cmp(want) != 0 || got != of(want) {
		t.Errorf("%x reduced: %x", a, got)
	}
	checkLimbs(t, got)
}

// P10.1: the table of the order is L.
func TestOrder(t *testing.T) {
	if value(order).Cmp(modulus()) != 0 || order != of(modulus()) {
		t.Errorf("%x", order)
	}
}

// P10.2: carrying changes no integer, be it below 0 or not, and leaves the sign
// in the top limb.
func TestCarried(t *testing.T) {
	check := func(a number) {
		got := a.carried()
		if value(got).Cmp(value(a)) != 0 || got[top] < 0 != (value(a).Sign() < 0) {
			t.Errorf("%x carried: %x", a, got)
		}
		checkLimbs(t, got)
	}
	for _, v := range words() {
		for _, w := range words() {
			for _, last := range []int64{0, 1, 511, -1, -511} {
				check(level(v, last))
				a := level(v, last)
				for i := range top {
					b := a
					b[i] = w
					check(b)
				}
			}
		}
	}
}

// P10.2: the reduction of everything beside multiples of L and of 2^252, as far
// as a product of a byte and what was there before goes.
func TestReductionBesideMultiples(t *testing.T) {
	const most = 511
	end := new(big.Int).Mul(modulus(), big.NewInt(most))
	for n := range int64(most + 1) {
		times := new(big.Int).Mul(modulus(), big.NewInt(n))
		power := new(big.Int).Lsh(big.NewInt(n), 252)
		half := new(big.Int).Add(times, new(big.Int).Rsh(modulus(), 1))
		for _, v := range []*big.Int{times, power, half} {
			for d := int64(-3); d <= 3; d++ {
				w := new(big.Int).Add(v, big.NewInt(d))
				if w.Sign() >= 0 && w.Cmp(end) < 0 {
					checkReduced(t, of(w))
				}
			}
		}
	}
}

// P10.2: the reduction of products and sums that nobody has carried, with limbs
// as great as they come.
func TestReductionOfProducts(t *testing.T) {
	less := new(big.Int).Sub(modulus(), big.NewInt(1))
	greatest := []number{of(less), level(limbMask, 0), level(0, 1), level(1, 0), {}, {limbMask}}
	for _, a := range greatest {
		for _, b := range greatest {
			for _, v := range []int64{0, 1, 2, 127, 128, 254, 255} {
				checkReduced(t, a.times(1<<8).plus(b.times(v)))
				checkReduced(t, a.plus(b.times(v)))
			}
			checkReduced(t, a.plus(b))
		}
	}
}

// P10.1: the encoding of limbs, each bit in its place.
func TestBytes(t *testing.T) {
	for n := range 253 {
		var want [numBytes]byte
		want[n/8] = 1 << (n % 8)
		if got := of(new(big.Int).Lsh(big.NewInt(1), uint(n))).bytes(); got != string(want[:]) {
			t.Errorf("2^%d: %x", n, got)
		}
	}
}
