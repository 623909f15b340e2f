package exact_test

import (
	"math"
	"math/big"
	"slices"
	"testing"

	"examboard/api"
	"examboard/exact"
)

// ok returns a list and complains of an error.
func ok(t *testing.T) func([]api.Ratio, api.Errno) []api.Ratio {
	return func(d []api.Ratio, e api.Errno) []api.Ratio {
		t.Helper()
		if e != api.OK {
			t.Error("an error:", e)
		}
		return d
	}
}

// number returns the value of a ratio and complains of an error.
func number(t *testing.T) func(api.Ratio, api.Errno) *big.Rat {
	return func(a api.Ratio, e api.Errno) *big.Rat {
		t.Helper()
		if e != api.OK {
			t.Error("an error:", e)
		}
		return bigOf(a)
	}
}

func sum(a, b *big.Rat) *big.Rat { return new(big.Rat).Add(a, b) }

func TestP7_5Groups(t *testing.T) {
	for _, c := range [][2]int{{0, 0}, {0, 1}, {1, 0}, {0, 120}, {120, 0}, {1, 119}, {60, 60}, {119, 1}, {3, 5}, {7, 2}, {20, 31}} {
		ps := chances(int64(10+c[0]), c[0]+c[1])
		first, second := ok(t)(exact.Trials(ps[:c[0]])), ok(t)(exact.Trials(ps[c[0]:]))
		whole := ok(t)(exact.Trials(ps))
		d, e := exact.Convolve(first, second)
		are(t, d, e, bigsOf(whole), "the convolution of two groups", c)
		got, e := exact.Mean(whole)
		is(t, got, e, sum(number(t)(exact.Mean(first)), number(t)(exact.Mean(second))), "Mean of two groups", c)
		got, e = exact.Variance(whole)
		is(t, got, e, sum(number(t)(exact.Variance(first)), number(t)(exact.Variance(second))), "Variance of two groups", c)
	}
	all := distributions(7, 60)
	for i, a := range all {
		b := all[(11*i+5)%len(all)]
		if len(a)+len(b)-1 > most {
			continue
		}
		d := ok(t)(exact.Convolve(a, b))
		are(t, ok(t)(exact.Convolve(b, a)), api.OK, bigsOf(d), "the other order", i)
		got, e := exact.Mean(d)
		is(t, got, e, sum(number(t)(exact.Mean(a)), number(t)(exact.Mean(b))), "Mean of a sum", i)
		got, e = exact.Variance(d)
		is(t, got, e, sum(number(t)(exact.Variance(a)), number(t)(exact.Variance(b))), "Variance of a sum", i)
	}
}

func TestP7_6EqualTrials(t *testing.T) {
	for i, p := range append(chances(8, 40), list("0 1 1/2 1/2^32 5/0")...) {
		n := []int{0, 1, 2, 3, 17, 60, 119, 120}[i%8]
		d := ok(t)(exact.Binomial(n, p))
		are(t, ok(t)(exact.Trials(slices.Repeat([]api.Ratio{p}, n))), api.OK, bigsOf(d), "Trials", n, bigOf(p))
		want := new(big.Rat).Mul(big.NewRat(int64(n), 1), bigOf(p))
		got, e := exact.Mean(d)
		is(t, got, e, want, "Mean", n, bigOf(p))
		got, e = exact.Variance(d)
		is(t, got, e, want.Mul(want, new(big.Rat).Sub(big.NewRat(1, 1), bigOf(p))), "Variance", n, bigOf(p))
	}
}

func TestP7_7Exchange(t *testing.T) {
	totals := []int{0, 1, 2, 3, 4, 5, 6, 7, 8, 13, 20, 120}
	for _, total := range totals {
		step := 1 + total/20
		for marked := 0; marked <= total; marked += step {
			for drawn := 0; drawn <= total; drawn += step {
				d := ok(t)(exact.Hyper(total, marked, drawn))
				are(t, ok(t)(exact.Hyper(total, drawn, marked)), api.OK, bigsOf(d), "Hyper exchanged", total, marked, drawn)
				if !exact.Valid(d) || len(d) != min(marked, drawn)+1 {
					t.Error("Hyper", total, marked, drawn, "is no distribution of that size")
				}
				if total > 0 {
					got, e := exact.Mean(d)
					is(t, got, e, big.NewRat(int64(marked*drawn), int64(total)), "Mean", total, marked, drawn)
				}
			}
		}
	}
}

func TestP7_8Tails(t *testing.T) {
	one := big.NewRat(1, 1)
	all := distributions(9, 60)
	for _, n := range []int{0, 1, 2, 9, 120} {
		all = append(all, ok(t)(exact.Binomial(n, read("1/3"))), ok(t)(exact.Trials(chances(3, n))), ok(t)(exact.Hyper(120, n, 50)))
	}
	for i, d := range all {
		values := bigsOf(d)
		greatest := slices.MaxFunc(values, (*big.Rat).Cmp)
		places := []int{math.MinInt, math.MinInt + 1, -2, -1, len(d) - 1, len(d), len(d) + 1, math.MaxInt - 1}
		for k := 0; k < len(d); k += 1 + len(d)/12 {
			places = append(places, k)
		}
		for _, k := range places {
			lower, upper := number(t)(exact.Lower(d, k)), number(t)(exact.Upper(d, k+1))
			if sum(lower, upper).Cmp(one) != 0 {
				t.Errorf("distribution %d at %d: %v and %v do not add up to 1", i, k, lower, upper)
			}
		}
		for k, a := range values {
			both := number(t)(exact.Both(d, k))
			if both.Cmp(a) < 0 || both.Cmp(one) > 0 || a.Cmp(greatest) == 0 && both.Cmp(one) != 0 {
				t.Errorf("distribution %d at %d: the p-value of %v is %v", i, k, a, both)
			}
		}
	}
}

// results returns every list and every single ratio that the functions return
// for two lists, a probability and a value.
func results(a, b []api.Ratio, p api.Ratio, k int) [][]api.Ratio {
	exact.Valid(a)
	binomial, _ := exact.Binomial(k, p)
	hyper, _ := exact.Hyper(9, k, 5)
	trials, _ := exact.Trials(a)
	sum, _ := exact.Convolve(a, b)
	upper, _ := exact.Upper(a, k)
	lower, _ := exact.Lower(a, k)
	both, _ := exact.Both(a, k)
	mean, _ := exact.Mean(a)
	variance, _ := exact.Variance(a)
	return [][]api.Ratio{binomial, hyper, trials, sum, {upper, lower, both, mean, variance}}
}

// overwrite changes all the memory of a number, its spare capacity too.
func overwrite(a api.Nat) {
	for i := range a[:cap(a)] {
		a[:cap(a)][i] = 0xdeadbeef
	}
}

// part returns the numbers in parts of longer slices, whose rest must not change either.
func part(d []api.Ratio) []api.Ratio {
	longer := func(a api.Nat) api.Nat { return append(slices.Clone(a), 77, 78)[:len(a)] }
	copied := make([]api.Ratio, 0, len(d)+1)
	for _, a := range d {
		copied = append(copied, api.Ratio{Num: api.Int{Neg: a.Num.Neg, Mag: longer(a.Num.Mag)}, Den: longer(a.Den)})
	}
	return append(copied, read("77/78"))[:len(d)]
}

// kept tells whether a list that part made is still the same.
func kept(copied, d []api.Ratio) bool {
	rest := func(a api.Nat) bool { return slices.Equal(a[len(a):len(a)+2], []uint32{77, 78}) }
	return slices.EqualFunc(copied, d, same) && same(copied[:len(d)+1][len(d)], read("77/78")) &&
		!slices.ContainsFunc(copied, func(a api.Ratio) bool { return !rest(a.Num.Mag) || !rest(a.Den) })
}

func TestP2ArgumentsAndResultsAreApart(t *testing.T) {
	lists := append(distributions(11, 12), nil, list("1/2 1/3"), list("3/2 -1/2"), list("1/2 1/2"), list("0 1 2/4 5/0"), even(122), chances(12, 5))
	for i, x := range lists {
		for j, y := range [][]api.Ratio{list("1"), list("1/3 2/3"), lists[(i+5)%len(lists)]} {
			p, k := read([]string{"0", "1", "2/6", "1/2^64", "-1/2", "5/0"}[(i+j)%6]), []int{0, 1, 3, -1, 120, 121}[(i+2*j)%6]
			a, b, c := part(x), part(y), part([]api.Ratio{p})
			got, want := results(a, b, c[0], k), results(x, y, p, k)
			if !kept(a, x) || !kept(b, y) || !kept(c, []api.Ratio{p}) {
				t.Fatalf("an argument was modified: %v, %v, %v", x, y, p)
			}
			for _, number := range slices.Concat(a, b, c) {
				overwrite(number.Num.Mag)
				overwrite(number.Den)
			}
			// Each number is looked at before it is overwritten, and after all the others before it were.
			for f := range got {
				for n, number := range got[f] {
					if !same(number, want[f][n]) {
						t.Fatalf("number %d of result %d for lists %d, %d shares memory with an argument or a result", n, f, i, j)
					}
					overwrite(number.Num.Mag)
					if !slices.Equal(number.Den, want[f][n].Den) {
						t.Fatalf("the parts of number %d of result %d for lists %d, %d share memory", n, f, i, j)
					}
					overwrite(number.Den)
				}
			}
			// What the caller does with results changes no later call.
			for f, again := range results(x, y, p, k) {
				if !slices.EqualFunc(again, want[f], same) {
					t.Fatalf("a later call for lists %d, %d depends on an earlier result", i, j)
				}
			}
		}
	}
}

func TestP2OneListForBothArguments(t *testing.T) {
	d := list("1/3 2/6 1/3")
	sum, e := exact.Convolve(d, d)
	are(t, sum, e, bigsOf(list("1/9 2/9 1/3 2/9 1/9")), "Convolve with itself")
	if !slices.EqualFunc(d, list("1/3 2/6 1/3"), same) {
		t.Error("Convolve changed its list to", d)
	}
}

func TestExamplesOfTheChapter(t *testing.T) {
	d, e := exact.Binomial(3, read("1/2"))
	are(t, d, e, bigsOf(list("1/8 3/8 3/8 1/8")), "Binomial(3, 1/2)")
	got, e := exact.Upper(d, 2)
	is(t, got, e, value("1/2"), "Upper at 2")
	got, e = exact.Lower(d, 0)
	is(t, got, e, value("1/8"), "Lower at 0")
	got, e = exact.Both(d, 0)
	is(t, got, e, value("1/4"), "Both at 0")
	d, e = exact.Convolve(list("1/2 1/2"), list("1/2 1/2"))
	are(t, d, e, bigsOf(list("1/4 1/2 1/4")), "Convolve with itself")
	d, e = exact.Binomial(121, read("2"))
	failsAll(t, d, e, api.ErrInvalid, "Binomial(121, 2/1)")
	d, e = exact.Binomial(121, read("1/2"))
	failsAll(t, d, e, api.ErrRange, "Binomial(121, 1/2)")
	if !exact.Valid(list("1/2 0 1/2")) || exact.Valid(list("1/2 1/3")) {
		t.Error("Valid")
	}
}
