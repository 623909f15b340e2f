package exact

import (
	"examboard/api"
	"examboard/nat"
	"examboard/ratio"
)

// Between taking ratios and returning them, this package computes with natural
// numbers over a common denominator, the whole: reducing every sum and product
// on the way would take far longer.

// common returns the parts and the whole of a distribution, element k of which
// is parts[k] / whole, or false if d is not a distribution.
func common(d []api.Ratio) (parts []api.Nat, whole api.Nat, ok bool) {
	if len(d) == 0 || len(d) > api.MaxSupport {
		return nil, nil, false
	}
	whole = nat.Of(1)
	for _, a := range d {
		switch ratio.Sign(a) {
		case -1:
			return nil, nil, false
		case 1:
			whole = leastMultiple(whole, a.Den)
		}
	}
	parts = make([]api.Nat, len(d))
	for k, a := range d {
		// A denominator of 0 leaves no quotient and a part of 0, as it should be.
		times, _, _ := nat.DivMod(whole, a.Den)
		parts[k] = nat.Mul(a.Num.Mag, times)
	}
	return parts, whole, nat.Cmp(total(parts), whole) == 0
}

// leastMultiple returns the least common multiple of two numbers above 0.
func leastMultiple(a, b api.Nat) api.Nat {
	times, _, _ := nat.DivMod(b, nat.Gcd(a, b))
	return nat.Mul(a, times)
}

// total returns the sum of the parts.
func total(parts []api.Nat) api.Nat {
	var sum api.Nat
	for _, part := range parts {
		sum = nat.Add(sum, part)
	}
	return sum
}

// convolved returns the parts of the sum of two independent numbers, over the
// product of the wholes. Neither a nor b is empty.
func convolved(a, b []api.Nat) []api.Nat {
	parts := make([]api.Nat, len(a)+len(b)-1)
	for i := range a {
		for j := range b {
			parts[i+j] = nat.Add(parts[i+j], nat.Mul(a[i], b[j]))
		}
	}
	return parts
}

// fraction returns part / whole; the whole is above 0.
func fraction(part, whole api.Nat) api.Ratio {
	a, _ := ratio.Make(api.Int{Mag: part}, api.Int{Mag: whole})
	return a
}

// lowest returns the parts divided by the product of the wholes.
func lowest(parts, wholes []api.Nat) []api.Ratio {
	d := make([]api.Ratio, len(parts))
	for k, part := range parts {
		d[k] = fraction(part, nat.Of(1))
		for _, whole := range wholes {
			// Reduced with each factor, a part is reduced with the product,
			// whose common divisor with it would take longer to find.
			next := fraction(d[k].Num.Mag, whole)
			d[k] = api.Ratio{Num: next.Num, Den: nat.Mul(d[k].Den, next.Den)}
		}
	}
	return d
}
