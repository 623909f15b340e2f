package nat

import (
	"math/bits"

	"examboard/api"
)

// DivMod returns the quotient and the remainder, or false if b is 0.
func DivMod(a, b api.Nat) (api.Nat, api.Nat, bool) {
	a, b = trim(a), trim(b)
	switch {
	case len(b) == 0:
		return nil, nil, false
	case Cmp(a, b) < 0:
		return nil, Norm(a), true
	case len(b) == 1:
		quotient := Norm(a)
		rest := divideByLimb(quotient, b[0])
		return trim(quotient), Of(uint64(rest)), true
	}
	quotient, rest := divideLong(a, b)
	return quotient, rest, true
}

// divideByLimb replaces a by its quotient by the divisor, which is not 0, and
// returns the remainder.
func divideByLimb(a api.Nat, divisor uint32) uint32 {
	var rest uint64
	for i := len(a) - 1; i >= 0; i-- {
		rest = rest<<limbBits | uint64(a[i])
		a[i] = uint32(rest / uint64(divisor))
		rest %= uint64(divisor)
	}
	return uint32(rest)
}

// divideLong divides as one does on paper, with limbs for digits (Knuth's
// algorithm D). The divisor has at least two limbs and no high zero limb, and
// a is not less than it.
func divideLong(a, b api.Nat) (api.Nat, api.Nat) {
	// With the highest bit of the divisor set, the estimate of each limb of
	// the quotient is at most 1 too great.
	shift := bits.LeadingZeros32(b[len(b)-1])
	divisor := shiftLeft(b, shift)[:len(b)]
	rest := shiftLeft(a, shift)
	quotient := make(api.Nat, len(a)-len(b)+1)
	for i := len(quotient) - 1; i >= 0; i-- {
		quotient[i] = takeOut(rest[i:i+len(b)+1], divisor)
	}
	shiftRight(rest, shift)
	return trim(quotient), trim(rest)
}

// takeOut subtracts the divisor from rest as often as possible and returns how
// often that was. Rest has one limb more than the divisor, and is less than
// the divisor times 2^32.
func takeOut(rest, divisor api.Nat) uint32 {
	count := estimate(rest, divisor)
	if subtractTimes(rest, divisor, count) {
		count--
		addBack(rest, divisor)
	}
	return count
}

// estimate returns the quotient of the two numbers, or 1 more, from the three
// highest limbs of rest and the two highest ones of the divisor.
func estimate(rest, divisor api.Nat) uint32 {
	n := len(divisor)
	high, next := uint64(divisor[n-1]), uint64(divisor[n-2])
	top := uint64(rest[n])<<limbBits | uint64(rest[n-1])
	count := min(top/high, 1<<limbBits-1)
	left := top - count*high
	for left>>limbBits == 0 && count*next > left<<limbBits|uint64(rest[n-2]) {
		count--
		left += high
	}
	return uint32(count)
}

// subtractTimes subtracts the divisor times count from rest, modulo the power
// of 2 after its highest limb, and tells whether rest was too small for that.
func subtractTimes(rest, divisor api.Nat, count uint32) bool {
	var carry uint64
	for i, limb := range divisor {
		carry += uint64(limb) * uint64(count)
		part := uint32(carry)
		carry >>= limbBits
		if rest[i] < part {
			carry++
		}
		rest[i] -= part
	}
	n := len(divisor)
	short := uint64(rest[n]) < carry
	rest[n] -= uint32(carry)
	return short
}

// addBack adds the divisor to rest. The carry out of the highest limb is
// dropped: it meets the borrow that subtractTimes left there.
func addBack(rest, divisor api.Nat) {
	var carry uint32
	for i, limb := range divisor {
		rest[i], carry = bits.Add32(rest[i], limb, carry)
	}
	rest[len(divisor)] += carry
}

// shiftLeft returns a times 2^shift with one limb more than a; shift is below 32.
func shiftLeft(a api.Nat, shift int) api.Nat {
	shifted := make(api.Nat, len(a)+1)
	var carry uint64
	for i, limb := range a {
		carry |= uint64(limb) << shift
		shifted[i] = uint32(carry)
		carry >>= limbBits
	}
	shifted[len(a)] = uint32(carry)
	return shifted
}

// shiftRight divides a by 2^shift, rounded down; shift is below 32.
func shiftRight(a api.Nat, shift int) {
	var carry uint64
	for i := len(a) - 1; i >= 0; i-- {
		carry = carry<<limbBits | uint64(a[i])
		a[i] = uint32(carry >> shift)
	}
}
