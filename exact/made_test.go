package exact_test

import (
	"math/big"
	"math/rand"
	"slices"
	"testing"

	"examboard/api"
	"examboard/exact"
)

// badChances are numbers that are no probabilities.
var badChances = []string{"-1", "-1/2", "-1/2^100", "2", "3/2", "2^64/2^32-1", "2^100", "-2^100"}

// chances returns probabilities in mixed forms, 0, 1 and long ones among them;
// the same ones in every run.
func chances(seed int64, count int) []api.Ratio {
	source := rand.New(rand.NewSource(seed))
	all := list("0 1 1/2 1/3 2/3 999/1000 1/2^32 2^64-1/2^64 2^40/2^77-1 5/0")
	for len(all) < count {
		bound := integer("2^70")
		if source.Intn(2) == 0 {
			bound = big.NewInt(1 + source.Int63n(1000))
		}
		num := new(big.Int).Rand(source, bound)
		all = append(all, ratioOf(new(big.Rat).SetFrac(num, bound)))
	}
	source.Shuffle(len(all), func(i, j int) { all[i], all[j] = all[j], all[i] })
	return mixed(source, all[:count])
}

func choose(n, k int) *big.Int {
	if k < 0 || k > n {
		return new(big.Int)
	}
	return new(big.Int).Binomial(int64(n), int64(k))
}

// binomial is the definition: element k is C(n, k) p^k (1 - p)^(n - k).
func binomial(n int, p *big.Rat) []*big.Rat {
	// Exp of big.Int, too, takes 0^0 as 1.
	power := func(a *big.Int, n int) *big.Int { return new(big.Int).Exp(a, big.NewInt(int64(n)), nil) }
	rest := new(big.Rat).Sub(big.NewRat(1, 1), p)
	d := make([]*big.Rat, n+1)
	for k := range d {
		ways := choose(n, k)
		ways.Mul(ways, power(p.Num(), k)).Mul(ways, power(rest.Num(), n-k))
		d[k] = new(big.Rat).SetFrac(ways, power(p.Denom(), n))
	}
	return d
}

func TestP7_3Binomial(t *testing.T) {
	for _, c := range []struct {
		n    int
		p    string
		want string
	}{
		{0, "0", "1"}, {0, "1/3", "1"}, {0, "1", "1"}, {0, "2^70/2^71-1", "1"}, {1, "0", "1 0"}, {1, "1", "0 1"}, {1, "1/3", "2/3 1/3"}, {2, "1/3", "4/9 4/9 1/9"}, {2, "0", "1 0 0"}, {2, "1", "0 0 1"},
		{3, "1/2", "1/8 3/8 3/8 1/8"}, {3, "0", "1 0 0 0"}, {3, "1", "0 0 0 1"}, {4, "1/6", "625/1296 125/324 25/216 5/324 1/1296"}, {2, "1/2^32", "18446744065119617025/2^64 2^32-1/2^63 1/2^64"}, {2, "5/0", "1 0 0"},
	} {
		for _, p := range forms(read(c.p)) {
			d, e := exact.Binomial(c.n, p)
			are(t, d, e, bigsOf(list(c.want)), "Binomial", c.n, c.p)
		}
	}
	for i, p := range chances(4, 60) {
		n := []int{i % 20, 119, 120}[i%3]
		d, e := exact.Binomial(n, p)
		are(t, d, e, binomial(n, bigOf(p)), "Binomial", n, bigOf(p))
	}
	for n := range most {
		d, e := exact.Binomial(n, read("2/6"))
		are(t, d, e, binomial(n, value("1/3")), "Binomial", n)
		for _, p := range []string{"0", "1"} {
			d, e := exact.Binomial(n, read(p))
			are(t, d, e, binomial(n, value(p)), "Binomial", n, p)
		}
	}
}

func TestP7_3BinomialErrors(t *testing.T) {
	inside := []int{0, 1, 2, 119, 120}
	for _, n := range append(inside, far...) {
		for _, p := range badChances {
			for _, form := range forms(read(p)) {
				d, e := exact.Binomial(n, form)
				failsAll(t, d, e, api.ErrInvalid, "Binomial", n, p)
			}
		}
	}
	for _, n := range far {
		for _, p := range []string{"0", "1", "1/2", "2^64-1/2^64", "5/0", "-5/0"} {
			d, e := exact.Binomial(n, read(p))
			failsAll(t, d, e, api.ErrRange, "Binomial", n, p)
		}
	}
}

// hyper is the definition.
func hyper(total, marked, drawn int) []*big.Rat {
	d := make([]*big.Rat, min(marked, drawn)+1)
	for k := range d {
		ways := new(big.Int).Mul(choose(marked, k), choose(total-marked, drawn-k))
		d[k] = new(big.Rat).SetFrac(ways, choose(total, drawn))
	}
	return d
}

// counted counts the subsets of the drawn size by how many of their elements
// are among the marked ones, which are the first ones.
func counted(total, marked, drawn int) []*big.Rat {
	counts, all := make([]int64, min(marked, drawn)+1), int64(0)
	for bits := range 1 << total {
		size, hits := 0, 0
		for i := range total {
			size += bits >> i & 1
			if i < marked {
				hits += bits >> i & 1
			}
		}
		if size == drawn {
			counts[hits]++
			all++
		}
	}
	d := make([]*big.Rat, len(counts))
	for k, count := range counts {
		d[k] = big.NewRat(count, all)
	}
	return d
}

func TestP7_3Hyper(t *testing.T) {
	for _, c := range []struct {
		total, marked, drawn int
		want                 string
	}{
		{0, 0, 0, "1"}, {1, 0, 0, "1"}, {1, 1, 0, "1"}, {1, 0, 1, "1"}, {1, 1, 1, "0 1"}, {4, 2, 2, "1/6 2/3 1/6"}, {3, 2, 2, "0 2/3 1/3"}, {3, 3, 2, "0 0 1"}, {3, 2, 3, "0 0 1"}, {5, 4, 3, "0 0 3/5 2/5"},
		{120, 0, 0, "1"}, {120, 120, 0, "1"}, {120, 0, 120, "1"}, {120, 1, 1, "119/120 1/120"}, {120, 119, 1, "1/120 119/120"}, {120, 1, 119, "1/120 119/120"}, {120, 120, 2, "0 0 1"}, {120, 2, 120, "0 0 1"},
	} {
		d, e := exact.Hyper(c.total, c.marked, c.drawn)
		are(t, d, e, bigsOf(list(c.want)), "Hyper", c.total, c.marked, c.drawn)
	}
	for total := range 9 {
		for marked := range total + 1 {
			for drawn := range total + 1 {
				d, e := exact.Hyper(total, marked, drawn)
				are(t, d, e, counted(total, marked, drawn), "Hyper", total, marked, drawn)
			}
		}
	}
	for _, total := range []int{9, 33, 60, 67, 100, 119, 120} {
		for marked := 0; marked <= total; marked += 1 + total/9 {
			for _, drawn := range []int{0, 1, 2, total / 3, total - marked - 1, total - marked, total - marked + 1, total - 1, total} {
				if drawn >= 0 && drawn <= total {
					d, e := exact.Hyper(total, marked, drawn)
					are(t, d, e, hyper(total, marked, drawn), "Hyper", total, marked, drawn)
				}
			}
		}
		d, e := exact.Hyper(total, total, total)
		are(t, d, e, hyper(total, total, total), "Hyper", total, total, total)
	}
}

func TestP7_3HyperErrors(t *testing.T) {
	for _, total := range far {
		for _, other := range append([]int{0, 1, 5, total - 1, total, total + 1, -total}, far...) {
			for _, c := range [][2]int{{0, 0}, {other, 0}, {0, other}, {other, other}, {total, other}} {
				d, e := exact.Hyper(total, c[0], c[1])
				failsAll(t, d, e, api.ErrRange, "Hyper", total, c)
			}
		}
	}
	for _, total := range []int{0, 1, 2, 60, 119, 120} {
		for _, wrong := range append([]int{-1, -total - 1, total + 1, 2*total + 1}, far...) {
			for _, right := range []int{0, total / 2, total} {
				d, e := exact.Hyper(total, wrong, right)
				failsAll(t, d, e, api.ErrRange, "Hyper", total, wrong, right)
				d, e = exact.Hyper(total, right, wrong)
				failsAll(t, d, e, api.ErrRange, "Hyper", total, right, wrong)
			}
			d, e := exact.Hyper(total, wrong, wrong)
			failsAll(t, d, e, api.ErrRange, "Hyper", total, wrong, wrong)
		}
	}
}

// trials adds one trial after the other.
func trials(ps []*big.Rat) []*big.Rat {
	d := []*big.Rat{big.NewRat(1, 1)}
	for _, p := range ps {
		d = convolved(d, []*big.Rat{new(big.Rat).Sub(big.NewRat(1, 1), p), p})
	}
	return d
}

// convolved is the definition: element k is the sum of a[i] b[k - i].
func convolved(a, b []*big.Rat) []*big.Rat {
	d := make([]*big.Rat, len(a)+len(b)-1)
	for k := range d {
		d[k] = new(big.Rat)
		for i := range a {
			if k-i >= 0 && k-i < len(b) {
				d[k].Add(d[k], new(big.Rat).Mul(a[i], b[k-i]))
			}
		}
	}
	return d
}

// enumerated adds up the probabilities of all outcomes of the trials.
func enumerated(ps []*big.Rat) []*big.Rat {
	d := make([]*big.Rat, len(ps)+1)
	for k := range d {
		d[k] = new(big.Rat)
	}
	for bits := range 1 << len(ps) {
		chance, successes := big.NewRat(1, 1), 0
		for i, p := range ps {
			if bits>>i&1 == 1 {
				chance.Mul(chance, p)
				successes++
			} else {
				chance.Mul(chance, new(big.Rat).Sub(big.NewRat(1, 1), p))
			}
		}
		d[successes].Add(d[successes], chance)
	}
	return d
}

func TestP7_3Trials(t *testing.T) {
	for _, c := range []struct{ ps, want string }{
		{"", "1"}, {"0", "1 0"}, {"1", "0 1"}, {"1/3", "2/3 1/3"}, {"1/2 1/3", "1/3 1/2 1/6"}, {"1/3 1/2", "1/3 1/2 1/6"}, {"0 0 0", "1 0 0 0"}, {"1 1 1", "0 0 0 1"}, {"0 1 0 1", "0 0 1 0 0"},
		{"1/2 0 1/2 1", "0 1/4 1/2 1/4 0"}, {"1/2^64 2^64-1/2^64", "2^64-1/2^128 340282366920938463426481119284349108226/2^128 2^64-1/2^128"}, {"5/0 1/2 -5/0", "1/2 1/2 0 0"},
	} {
		d, e := exact.Trials(list(c.ps))
		are(t, d, e, bigsOf(list(c.want)), "Trials", c.ps)
	}
	for count := range 11 {
		ps := chances(int64(count), count)
		d, e := exact.Trials(ps)
		are(t, d, e, enumerated(bigsOf(ps)), "Trials", count)
	}
	for _, count := range []int{20, 60, 119, 120} {
		ps := chances(5, count)
		d, e := exact.Trials(ps)
		are(t, d, e, trials(bigsOf(ps)), "Trials", count)
	}
	d, e := exact.Trials(make([]api.Ratio, 120))
	are(t, d, e, binomial(120, new(big.Rat)), "120 trials without success")
	d, e = exact.Trials(slices.Repeat(list("1"), 120))
	are(t, d, e, binomial(120, big.NewRat(1, 1)), "120 trials without failure")
}

func TestP7_3TrialsErrors(t *testing.T) {
	for _, count := range []int{1, 2, 120, 121, 122, 1000} {
		for _, bad := range badChances {
			for _, at := range []int{0, count / 2, count - 1} {
				ps := slices.Repeat(list("1/2"), count)
				ps[at] = wide(read(bad), "3", at%2)
				d, e := exact.Trials(ps)
				failsAll(t, d, e, api.ErrInvalid, "Trials", count, bad, at)
			}
		}
	}
	for _, count := range []int{121, 122, 200, 1000, 100000} {
		for _, p := range []string{"0", "1", "1/2", "5/0", "-5/0"} {
			d, e := exact.Trials(slices.Repeat(list(p), count))
			failsAll(t, d, e, api.ErrRange, "Trials", count, p)
		}
	}
}

func TestP7_4Convolve(t *testing.T) {
	for _, c := range []struct{ a, b, want string }{
		{"1", "1", "1"}, {"1", "1/3 2/3", "1/3 2/3"}, {"1/3 2/3", "1", "1/3 2/3"}, {"1/2 1/2", "1/2 1/2", "1/4 1/2 1/4"}, {"1/2 1/2", "1/3 0 2/3", "1/6 1/6 1/3 1/3"},
		{"0 1", "0 0 1", "0 0 0 1"}, {"1 0", "1 0 0", "1 0 0 0"}, {"1/2 1/2 0", "1/2 1/2 0 0", "1/4 1/2 1/4 0 0 0"}, {"1/2^64 2^64-1/2^64", "1/2 1/2", "1/2^65 1/2 2^64-1/2^65"},
	} {
		d, e := exact.Convolve(list(c.a), list(c.b))
		are(t, d, e, bigsOf(list(c.want)), "Convolve", c.a, c.b)
	}
	all := distributions(6, 120)
	for i, a := range all {
		b := all[(7*i+3)%len(all)]
		d, e := exact.Convolve(a, b)
		if len(a)+len(b)-1 > most {
			failsAll(t, d, e, api.ErrTooLong, "Convolve", i)
			continue
		}
		are(t, d, e, convolved(bigsOf(a), bigsOf(b)), "Convolve", i)
	}
}

func TestP7_4ConvolveLengths(t *testing.T) {
	for _, size := range []int{1, 2, 3, 60, 61, 62, 119, 120, 121} {
		for other := 1; other <= most; other++ {
			if sum := size + other - 1; sum < 120 || sum > 123 {
				continue
			}
			a, b := even(size), even(other)
			d, e := exact.Convolve(a, b)
			if size+other-1 > most {
				failsAll(t, d, e, api.ErrTooLong, "Convolve", size, other)
			} else {
				are(t, d, e, convolved(bigsOf(a), bigsOf(b)), "Convolve", size, other)
			}
		}
	}
	// Zeros at the end count as elements.
	d, e := exact.Convolve(append(list("1"), zeros(60)...), append(list("1"), zeros(61)...))
	failsAll(t, d, e, api.ErrTooLong, "Convolve with 122 elements, all but one 0")
	d, e = exact.Convolve(even(most), even(most))
	failsAll(t, d, e, api.ErrTooLong, "Convolve with 241 elements")
}

func TestP7_4ConvolveErrors(t *testing.T) {
	for name, bad := range noDistributions() {
		for _, good := range [][]api.Ratio{list("1"), list("1/2 1/2"), even(120), even(most)} {
			d, e := exact.Convolve(bad, good)
			failsAll(t, d, e, api.ErrInvalid, "Convolve", name, "and", len(good))
			d, e = exact.Convolve(good, bad)
			failsAll(t, d, e, api.ErrInvalid, "Convolve", len(good), "and", name)
		}
		for other, bad2 := range noDistributions() {
			d, e := exact.Convolve(bad, bad2)
			failsAll(t, d, e, api.ErrInvalid, "Convolve", name, "and", other)
		}
	}
}
