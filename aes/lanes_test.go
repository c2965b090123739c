package aes

import "testing"

// beside is bytes in the other lanes: none, all bits, and any.
func beside() []lanes { return []lanes{0, 0xffffffffffffffff, 0x80017ffe55aa1b63} }

// put is a with b in the lane i.
func put(a lanes, i int, b byte) lanes {
	return a&^(0xff<<(8*i)) | lanes(b)<<(8*i)
}

// at is the byte in the lane i.
func at(a lanes, i int) byte { return byte(a >> (8 * i)) }

// slow is the product of two bytes, one bit after the other.
func slow(a, b byte) byte {
	var out byte
	for ; b > 0; b >>= 1 {
		if b&1 == 1 {
			out ^= a
		}
		over := a >> 7
		a <<= 1
		if over == 1 {
			a ^= 0x1b
		}
	}
	return out
}

// P5.1: the products of all bytes, in every lane and whatever is beside them.
func TestProductsInLanes(t *testing.T) {
	for i := range 8 {
		for _, rest := range beside() {
			for a := range 256 {
				for b := range 256 {
					got := put(rest, i, byte(a)).times(put(^rest, i, byte(b)))
					if at(got, i) != slow(byte(a), byte(b)) {
						t.Fatalf("%x times %x = %x, in lane %d", a, b, at(got, i), i)
					}
				}
			}
		}
	}
}

// P5.1: what is done to one byte, in every lane and whatever is beside it.
func TestBytesInLanes(t *testing.T) {
	for i := range 8 {
		for _, rest := range beside() {
			for v := range 256 {
				b := byte(v)
				a := put(rest, i, b)
				if got := at(a.doubled(), i); got != slow(b, 2) {
					t.Errorf("%x doubled = %x, in lane %d", b, got, i)
				}
				power := b
				for n := range 5 {
					if got := at(a.squared(n), i); got != power {
						t.Errorf("%x squared %d times = %x, in lane %d", b, n, got, i)
					}
					power = slow(power, power)
				}
				inverse := at(a.inverse(), i)
				if b != 0 && slow(b, inverse) != 1 || b == 0 && inverse != 0 {
					t.Errorf("the inverse of %x = %x, in lane %d", b, inverse, i)
				}
				for n := range 8 {
					if got := at(a.rotated(n), i); got != b<<n|b>>(8-n) {
						t.Errorf("%x rotated by %d = %x, in lane %d", b, n, got, i)
					}
				}
				if got := at(a.swapped(), i); got != Swap(b) {
					t.Errorf("%x swapped = %x, in lane %d", b, got, i)
				}
			}
		}
	}
}
