package exact

import (
	"examboard/api"
	"examboard/nat"
	"examboard/ratio"
)

// Upper returns the probability of at least k.
func Upper(d []api.Ratio, k int) (api.Ratio, api.Errno) {
	parts, whole, ok := common(d)
	if !ok {
		return api.Ratio{}, api.ErrInvalid
	}
	first := min(max(k, 0), len(parts))
	return fraction(total(parts[first:]), whole), api.OK
}

// Lower returns the probability of at most k.
func Lower(d []api.Ratio, k int) (api.Ratio, api.Errno) {
	parts, whole, ok := common(d)
	if !ok {
		return api.Ratio{}, api.ErrInvalid
	}
	last := min(max(k, -1), len(parts)-1)
	return fraction(total(parts[:last+1]), whole), api.OK
}

// Both returns the total probability of all values that are at most as probable as k.
func Both(d []api.Ratio, k int) (api.Ratio, api.Errno) {
	parts, whole, ok := common(d)
	if !ok {
		return api.Ratio{}, api.ErrInvalid
	}
	var sum api.Nat
	if k >= 0 && k < len(parts) {
		for _, part := range parts {
			if nat.Cmp(part, parts[k]) <= 0 {
				sum = nat.Add(sum, part)
			}
		}
	}
	return fraction(sum, whole), api.OK
}

// Mean returns the mean.
func Mean(d []api.Ratio) (api.Ratio, api.Errno) {
	parts, whole, ok := common(d)
	if !ok {
		return api.Ratio{}, api.ErrInvalid
	}
	return fraction(moment(parts, 1), whole), api.OK
}

// Variance returns the variance.
func Variance(d []api.Ratio) (api.Ratio, api.Errno) {
	parts, whole, ok := common(d)
	if !ok {
		return api.Ratio{}, api.ErrInvalid
	}
	mean := fraction(moment(parts, 1), whole)
	return ratio.Sub(fraction(moment(parts, 2), whole), ratio.Mul(mean, mean)), api.OK
}

// moment returns the sum of k to the power n times part k.
func moment(parts []api.Nat, n int) api.Nat {
	var sum api.Nat
	for k, part := range parts {
		sum = nat.Add(sum, nat.Mul(power(nat.Of(uint64(k)), n), part))
	}
	return sum
}
