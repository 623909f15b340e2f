package draws_test

import (
	"math"
	"math/big"
	"math/rand"
	"slices"
	"testing"

	"examboard/api"
	"examboard/draws"
)

// share is the definition: x * n / 2^32, rounded down.
func share(x uint32, n int) int {
	product := new(big.Int).Mul(big.NewInt(int64(x)), big.NewInt(int64(n)))
	return int(product.Rsh(product, 32).Int64())
}

// firstDraw is the least draw at which Below(n) is k. For a k of n it would be
// 2^32, and is 0.
func firstDraw(k, n int) uint32 {
	first := new(big.Int).Lsh(big.NewInt(int64(k)), 32)
	first.Add(first, big.NewInt(int64(n-1))).Div(first, big.NewInt(int64(n)))
	return uint32(first.Uint64())
}

// bounds returns bounds of Below in rising order, with all the edges.
func bounds() []int {
	all := []int{1, 2, 3, 4, 5, 6, 7, 10, 12, 100, 255, 256, 1000, 1024, 65535, 65536, 65537, api.MaxCoef, api.MaxNumber, 1<<24 + 1, 1 << 30, 1<<30 + 1, 3 << 29, 1<<31 - 2, 1<<31 - 1, 1 << 31}
	source := rand.New(rand.NewSource(10))
	for range 200 {
		all = append(all, 1+source.Intn(1<<31>>source.Intn(31)))
	}
	slices.Sort(all)
	return all
}

func TestP8_4Below(t *testing.T) {
	for _, c := range []struct {
		d       api.Draw
		n, want int
	}{
		{0, 1, 0}, {0, 2, 0}, {0, 1000, 78}, {0, 1000000, 78208}, {0, 1<<31 - 1, 167951806}, {0, 1 << 31, 167951807},
		{last, 1, 0}, {last, 2, 1}, {last, 3, 2}, {last, 6, 4}, {last, 1000, 733}, {last, 1000000, 733208}, {last, 1<<31 - 1, 1574552487}, {last, 1 << 31, 1574552488},
		{42, 1, 0}, {42, 2, 1}, {42, 3, 1}, {42, 6, 3}, {42, 1000, 568}, {42, 1<<31 - 1, 1220265333}, {42, 1 << 31, 1220265334},
	} {
		if got, d := draws.Below(c.d, c.n); got != c.want || d != after(c.d, 1) {
			t.Errorf("Below(%d, %d): %d, %d; expected %d, %d", c.d, c.n, got, d, c.want, after(c.d, 1))
		}
	}
	for _, d := range states(11, 200) {
		x, next := drawn(d), after(d, 1)
		for _, n := range bounds() {
			if got, rest := draws.Below(d, n); got != share(x, n) || rest != next {
				t.Errorf("Below(%d, %d): %d, %d; expected %d, %d", d, n, got, rest, share(x, n), next)
			}
		}
	}
}

func TestP8_4BelowRoundsDown(t *testing.T) {
	for _, n := range bounds() {
		for _, k := range []int{1, 2, n / 3, n / 2, n - 2, n - 1} {
			if k < 1 || k >= n {
				continue
			}
			first := firstDraw(k, n)
			for _, low := range []uint32{0, math.MaxUint32} {
				if got, _ := draws.Below(drawing(first, low), n); got != k {
					t.Errorf("Below(%d) of the draw %d: %d, expected %d", n, first, got, k)
				}
				if got, _ := draws.Below(drawing(first-1, low), n); got != k-1 {
					t.Errorf("Below(%d) of the draw %d: %d, expected %d", n, first-1, got, k-1)
				}
			}
		}
	}
}

func TestP8_4BelowOutOfRange(t *testing.T) {
	for _, d := range states(12, 50) {
		for _, n := range slices.Concat([]int{0}, below, above) {
			if got, rest := draws.Below(d, n); got != 0 || rest != d {
				t.Errorf("Below(%d, %d): %d, %d", d, n, got, rest)
			}
		}
	}
}

func natOf(value *big.Int) api.Nat {
	var a api.Nat
	for rest := new(big.Int).Set(value); rest.Sign() > 0; rest.Rsh(rest, 32) {
		a = append(a, uint32(rest.Uint64()))
	}
	return a
}

// ratioOf makes the normal form of a value.
func ratioOf(value *big.Rat) api.Ratio {
	return api.Ratio{Num: api.Int{Neg: value.Sign() < 0, Mag: natOf(new(big.Int).Abs(value.Num()))}, Den: natOf(value.Denom())}
}

// times returns a with both parts multiplied by a factor, and with high zero limbs.
func times(value *big.Rat, factor string, zeros int) api.Ratio {
	a := ratioOf(value)
	a.Num.Mag = append(natOf(new(big.Int).Mul(new(big.Int).Abs(value.Num()), read(factor))), make(api.Nat, zeros)...)
	a.Den = append(natOf(new(big.Int).Mul(value.Denom(), read(factor))), make(api.Nat, zeros)...)
	return a
}

// forms returns a value in normal form and in other forms, 0 with
// denominators of 0 and a negative 0 among them.
func forms(value *big.Rat) []api.Ratio {
	all := []api.Ratio{ratioOf(value), times(value, "1", 2), times(value, "6", 0), times(value, "4294967296", 1), times(value, "18446744073709551615", 0), times(value, "340282366920938463463374607431768211457", 3)}
	if value.Sign() != 0 {
		return all
	}
	for _, num := range []api.Nat{nil, {0}, {0, 0}, {5}, {0, 1}} {
		for _, den := range []api.Nat{nil, {}, {0}, {0, 0, 0}} {
			all = append(all, api.Ratio{Num: api.Int{Mag: num}, Den: den}, api.Ratio{Num: api.Int{Neg: true, Mag: num}, Den: den})
		}
	}
	return append(all, api.Ratio{Num: api.Int{Neg: true}, Den: api.Nat{1}}, api.Ratio{Num: api.Int{Neg: true, Mag: api.Nat{0, 0}}, Den: api.Nat{0, 7}})
}

// power is 2^n, for a negative n a fraction.
func power(n int) *big.Rat {
	value := new(big.Rat).SetInt(new(big.Int).Lsh(big.NewInt(1), uint(max(n, -n))))
	if n < 0 {
		value.Inv(value)
	}
	return value
}

// around returns a value, and values just below and just above it.
func around(value *big.Rat) []*big.Rat {
	all := []*big.Rat{value}
	for _, n := range []int{-32, -33, -64, -100, -500} {
		all = append(all, new(big.Rat).Sub(value, power(n)), new(big.Rat).Add(value, power(n)))
	}
	return all
}

// chances returns numbers in rising order, most of them around the draw x by
// 2^32, 0 and 1.
func chances(x uint32) []*big.Rat {
	all := []*big.Rat{big.NewRat(-1, 1), big.NewRat(-1, 2), big.NewRat(1, 2), big.NewRat(1, 10), big.NewRat(1, 13), big.NewRat(2, 3), big.NewRat(5, 2), power(32), power(500)}
	all = append(all, new(big.Rat).Neg(power(32)), new(big.Rat).Neg(power(500)))
	for _, value := range []*big.Rat{new(big.Rat), big.NewRat(1, 1), new(big.Rat).Mul(big.NewRat(int64(x), 1), power(-32)), new(big.Rat).Mul(big.NewRat(int64(x)+1, 1), power(-32))} {
		all = append(all, around(value)...)
	}
	source := rand.New(rand.NewSource(int64(x)))
	for range 10 {
		den := new(big.Int).Add(new(big.Int).Rand(source, power(90).Num()), big.NewInt(1))
		all = append(all, new(big.Rat).SetFrac(new(big.Int).Rand(source, den), den))
	}
	slices.SortFunc(all, (*big.Rat).Cmp)
	return all
}

// happens is the definition: x is less than p * 2^32.
func happens(x uint32, p *big.Rat) bool {
	return big.NewRat(int64(x), 1).Cmp(new(big.Rat).Mul(p, power(32))) < 0
}

func TestP8_5Chance(t *testing.T) {
	for _, c := range []struct {
		d    api.Draw
		p    *big.Rat
		want bool
	}{
		{0, big.NewRat(1, 10), true}, {0, big.NewRat(1, 13), false}, {0, big.NewRat(335903614, 1<<32), false}, {0, big.NewRat(335903615, 1<<32), true}, {0, big.NewRat(671807229, 1<<33), true}, {0, big.NewRat(671807227, 1<<33), false},
		{last, big.NewRat(1, 2), false}, {last, big.NewRat(3149104977, 1<<32), false}, {last, big.NewRat(3149104978, 1<<32), true},
		{before(0), new(big.Rat), false}, {before(0), power(-500), true}, {before(last), big.NewRat(1, 1), true}, {before(last), big.NewRat(1<<32-1, 1<<32), false}, {before(last), new(big.Rat).Sub(big.NewRat(1, 1), power(-500)), true},
	} {
		for _, p := range forms(c.p) {
			if got, d := draws.Chance(c.d, p); got != c.want || d != after(c.d, 1) {
				t.Errorf("Chance(%d, %v): %t, %d; expected %t", c.d, c.p, got, d, c.want)
			}
		}
	}
	for _, d := range states(13, 20) {
		x, next := drawn(d), after(d, 1)
		for _, value := range chances(x) {
			for _, p := range forms(value) {
				if got, rest := draws.Chance(d, p); got != happens(x, value) || rest != next {
					t.Errorf("Chance(%d, %v): %t, %d; expected %t, %d", d, p, got, rest, happens(x, value), next)
				}
			}
		}
	}
}

func TestP8_5ChanceOfNoneAndAll(t *testing.T) {
	for _, d := range states(14, 300) {
		for _, value := range chances(drawn(d)) {
			got, rest := draws.Chance(d, ratioOf(value))
			if value.Sign() <= 0 && got || value.Cmp(big.NewRat(1, 1)) >= 0 && !got {
				t.Errorf("Chance(%d, %v): %t", d, value, got)
			}
			if rest == d {
				t.Errorf("Chance(%d, %v) draws nothing", d, value)
			}
		}
	}
}

func TestP8_9BelowAndChance(t *testing.T) {
	for _, d := range states(15, 300) {
		least := 0
		for _, n := range bounds() {
			got, _ := draws.Below(d, n)
			if got < least || got > n-1 {
				t.Errorf("Below(%d, %d): %d, and for a smaller bound %d", d, n, got, least)
			}
			least = got
		}
		happened := false
		for _, value := range chances(drawn(d)) {
			got, _ := draws.Chance(d, ratioOf(value))
			if happened && !got {
				t.Errorf("Chance(%d, %v) is false, and for a lower p true", d, value)
			}
			happened = got
		}
	}
}

// clone copies a ratio with the memory behind its parts.
func clone(a api.Ratio) api.Ratio {
	return api.Ratio{Num: api.Int{Neg: a.Num.Neg, Mag: slices.Clone(a.Num.Mag[:cap(a.Num.Mag)])}, Den: slices.Clone(a.Den[:cap(a.Den)])}
}

func TestP2ChanceLeavesItsArgument(t *testing.T) {
	for _, d := range states(16, 5) {
		for _, value := range chances(drawn(d)) {
			for _, p := range forms(value) {
				want := clone(p)
				draws.Chance(d, p)
				if got := clone(p); got.Num.Neg != want.Num.Neg || !slices.Equal(got.Num.Mag, want.Num.Mag) || !slices.Equal(got.Den, want.Den) {
					t.Fatalf("Chance(%d, %v) changed p to %v", d, want, got)
				}
			}
		}
	}
	// One memory for both parts.
	limbs := api.Nat{7, 8}
	if got, _ := draws.Chance(before(last), api.Ratio{Num: api.Int{Mag: limbs}, Den: limbs}); !got || !slices.Equal(limbs, api.Nat{7, 8}) {
		t.Errorf("Chance of a number by itself: %t, and the limbs are %v", got, limbs)
	}
}
