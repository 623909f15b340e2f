package combin

import (
	"slices"

	"examboard/api"
	"examboard/nat"
)

// isSubset reports whether n is in range and subset is a subset of the numbers 0 to n - 1.
func isSubset(n int, subset []int) bool {
	if !countable(n) {
		return false
	}
	previous := -1
	for _, x := range subset {
		if x <= previous || x >= n {
			return false
		}
		previous = x
	}
	return true
}

// split divides count, the number of subsets of size k of n numbers, into those
// with the first one of the numbers and those without it; n is above 0. In
// lexicographic order all of the former come before all of the latter.
func split(count api.Nat, n, k int) (api.Nat, api.Nat) {
	with := share(count, k, n)
	without, _ := nat.Sub(count, with)
	return with, without
}

// Rank returns the position of a subset among those of its size in lexicographic order, or false if it is not a subset of 0 to n - 1.
func Rank(n int, subset []int) (api.Nat, bool) {
	if !isSubset(n, subset) {
		return nil, false
	}
	var rank api.Nat
	rest := subset
	count, _ := Choose(n, len(rest))
	for x := 0; len(rest) > 0; x++ {
		with, without := split(count, n-x, len(rest))
		if rest[0] == x {
			count, rest = with, rest[1:]
		} else {
			count, rank = without, nat.Add(rank, with)
		}
	}
	return rank, true
}

// Unrank returns the subset of size k at a position, or false if there is none.
func Unrank(n, k int, rank api.Nat) ([]int, bool) {
	// For an n or a k out of range the count is 0, and no rank is below that.
	count, _ := Choose(n, k)
	if nat.Cmp(rank, count) >= 0 {
		return nil, false
	}
	subset := make([]int, 0, k)
	for x := 0; len(subset) < k; x++ {
		with, without := split(count, n-x, k-len(subset))
		if nat.Cmp(rank, with) < 0 {
			count, subset = with, append(subset, x)
		} else {
			count = without
			rank, _ = nat.Sub(rank, with)
		}
	}
	return subset, true
}

// Next returns the subset that follows, or false if it is the last one or not a subset.
func Next(n int, subset []int) ([]int, bool) {
	if !isSubset(n, subset) {
		return nil, false
	}
	// The least change raises the last number that can rise by 1, and puts those behind it as low as they can be.
	for i := len(subset) - 1; i >= 0; i-- {
		if subset[i] < n-(len(subset)-i) {
			next := slices.Clone(subset)
			for j := i; j < len(next); j++ {
				next[j] = subset[i] + 1 + j - i
			}
			return next, true
		}
	}
	return nil, false
}
