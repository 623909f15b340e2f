// Package nat is layer 1: natural numbers of any size. See shared/doc/01-nat.md.
package nat

import (
	"cmp"
	"math/bits"

	"examboard/api"
)

// limbBits is the size of a limb; a limb and a carry of the same size fit into a uint64.
const limbBits = 32

// trim returns the part of a below its high zero limbs. It shares the memory
// of a, so that only memory of this package may go from it into a result.
func trim(a api.Nat) api.Nat {
	n := len(a)
	for n > 0 && a[n-1] == 0 {
		n--
	}
	return a[:n]
}

// Of returns the number n.
func Of(n uint64) api.Nat {
	return trim(api.Nat{uint32(n), uint32(n >> limbBits)})
}

// Norm returns a without high zero limbs.
func Norm(a api.Nat) api.Nat {
	a = trim(a)
	normal := make(api.Nat, len(a))
	copy(normal, a)
	return normal
}

// Cmp compares two numbers: -1, 0 or 1.
func Cmp(a, b api.Nat) int {
	a, b = trim(a), trim(b)
	if len(a) != len(b) {
		return cmp.Compare(len(a), len(b))
	}
	for i := len(a) - 1; i >= 0; i-- {
		if a[i] != b[i] {
			return cmp.Compare(a[i], b[i])
		}
	}
	return 0
}

// Add returns a + b.
func Add(a, b api.Nat) api.Nat {
	a, b = trim(a), trim(b)
	if len(a) < len(b) {
		a, b = b, a
	}
	sum := make(api.Nat, len(a)+1)
	var carry uint64
	for i, limb := range a {
		carry += uint64(limb)
		if i < len(b) {
			carry += uint64(b[i])
		}
		sum[i] = uint32(carry)
		carry >>= limbBits
	}
	sum[len(a)] = uint32(carry)
	return trim(sum)
}

// Sub returns a - b, or false if b is greater.
func Sub(a, b api.Nat) (api.Nat, bool) {
	a, b = trim(a), trim(b)
	if Cmp(a, b) < 0 {
		return nil, false
	}
	difference := make(api.Nat, len(a))
	var borrow uint32
	for i, limb := range a {
		var other uint32
		if i < len(b) {
			other = b[i]
		}
		difference[i], borrow = bits.Sub32(limb, other, borrow)
	}
	return trim(difference), true
}

// Mul returns a * b.
func Mul(a, b api.Nat) api.Nat {
	a, b = trim(a), trim(b)
	product := make(api.Nat, len(a)+len(b))
	for i, limb := range a {
		product[i+len(b)] = addTimes(product[i:i+len(b)], b, limb)
	}
	return trim(product)
}

// addTimes adds b * factor to sum, which is as long as b, and returns the
// carry. No step overflows: a limb times a limb plus two limbs is below 2^64.
func addTimes(sum, b api.Nat, factor uint32) uint32 {
	var carry uint64
	for i, limb := range b {
		carry += uint64(limb)*uint64(factor) + uint64(sum[i])
		sum[i] = uint32(carry)
		carry >>= limbBits
	}
	return uint32(carry)
}

// Gcd returns the greatest common divisor; that of 0 and b is b.
func Gcd(a, b api.Nat) api.Nat {
	x, y := Norm(a), Norm(b)
	for len(x) > 2 || len(y) > 2 {
		if len(y) == 0 {
			return x
		}
		_, rest, _ := DivMod(x, y)
		x, y = y, rest
	}
	// Most numbers are this small, and machine words need no memory per step.
	return Of(wordGcd(low(x), low(y)))
}

// low returns the value of the two lowest limbs.
func low(a api.Nat) uint64 {
	var word uint64
	for i, limb := range a[:min(len(a), 2)] {
		word |= uint64(limb) << (i * limbBits)
	}
	return word
}

func wordGcd(x, y uint64) uint64 {
	for y != 0 {
		x, y = y, x%y
	}
	return x
}

// Pow returns a to the power n, or false if n is out of range.
func Pow(a api.Nat, n int) (api.Nat, bool) {
	if n < 0 || n > api.MaxPower {
		return nil, false
	}
	// From the highest bit of n down, no number greater than the result arises.
	power := Of(1)
	for bit := bits.Len(uint(n)) - 1; bit >= 0; bit-- {
		power = Mul(power, power)
		if n>>bit&1 == 1 {
			power = Mul(power, a)
		}
	}
	return power, true
}

// Bits returns the number of significant bits.
func Bits(a api.Nat) int {
	a = trim(a)
	if len(a) == 0 {
		return 0
	}
	last := len(a) - 1
	return last*limbBits + bits.Len32(a[last])
}

// Uint returns the number as a uint64, or false if it does not fit.
func Uint(a api.Nat) (uint64, bool) {
	a = trim(a)
	if len(a) > 2 {
		return 0, false
	}
	return low(a), true
}
