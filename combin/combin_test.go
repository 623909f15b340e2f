package combin_test

import (
	"math"
	"math/big"
	"math/rand"
	"slices"
	"testing"

	"examboard/api"
	"examboard/combin"
)

const (
	limit = 200 // MaxCombin
	top   = math.MaxUint32
)

// beyond are numbers of elements that are out of range.
var beyond = []int{-1, -2, -200, -201, 201, 202, 255, 256, 1000, math.MaxInt32, math.MinInt32, 1 << 32, 1<<32 + 5, math.MaxInt - 1, math.MaxInt, math.MinInt + 1, math.MinInt}

// bigOf is the reference: it reads the limbs by the definition of their value.
func bigOf(a api.Nat) *big.Int {
	value := new(big.Int)
	for i := len(a) - 1; i >= 0; i-- {
		value.Lsh(value, 32).Or(value, new(big.Int).SetUint64(uint64(a[i])))
	}
	return value
}

// natOf makes the normal form of a value.
func natOf(value *big.Int) api.Nat {
	var a api.Nat
	for rest := new(big.Int).Set(value); rest.Sign() > 0; rest.Rsh(rest, 32) {
		a = append(a, uint32(new(big.Int).And(rest, big.NewInt(top)).Uint64()))
	}
	return a
}

func read(notation string) *big.Int {
	value, ok := new(big.Int).SetString(notation, 10)
	if !ok {
		panic(notation)
	}
	return value
}

func factorial(n int) *big.Int { return new(big.Int).MulRange(1, int64(n)) }

// choose is 0 for a k out of range.
func choose(n, k int) *big.Int {
	if k < 0 || k > n {
		return new(big.Int)
	}
	return new(big.Int).Binomial(int64(n), int64(k))
}

// multinomial is the definition: a factorial divided by factorials.
func multinomial(parts []int) *big.Int {
	sum, divisor := 0, big.NewInt(1)
	for _, part := range parts {
		sum += part
		divisor.Mul(divisor, factorial(part))
	}
	quotient, rest := new(big.Int).QuoRem(factorial(sum), divisor, new(big.Int))
	if rest.Sign() != 0 {
		panic("a remainder")
	}
	return quotient
}

// rankOf counts the subsets that do not come after this one: those that come
// after it have a greater number at the first index at which they differ.
func rankOf(n int, subset []int) *big.Int {
	rank := choose(n, len(subset))
	rank.Sub(rank, big.NewInt(1))
	for i, x := range subset {
		rank.Sub(rank, choose(n-1-x, len(subset)-i))
	}
	return rank
}

// equal tells whether a is a value, in normal form.
func equal(a api.Nat, value *big.Int) bool { return slices.Equal(a, natOf(value)) }

// is checks a number and its true.
func is(t *testing.T, a api.Nat, ok bool, want *big.Int, what ...any) {
	t.Helper()
	if !ok || !equal(a, want) {
		t.Errorf("%v: %v, %v; expected %v", what, a, ok, want)
	}
}

// none checks that there is no number.
func none(t *testing.T, a api.Nat, ok bool, what ...any) {
	t.Helper()
	if ok || len(a) != 0 {
		t.Errorf("%v: %v, %v; expected false", what, a, ok)
	}
}

// isSubset checks a subset and its true.
func isSubset(t *testing.T, subset []int, ok bool, want []int, what ...any) {
	t.Helper()
	if !ok || !slices.Equal(subset, want) {
		t.Errorf("%v: %v, %v; expected %v", what, subset, ok, want)
	}
}

// noSubset checks that there is no subset.
func noSubset(t *testing.T, subset []int, ok bool, what ...any) {
	t.Helper()
	if ok || len(subset) != 0 {
		t.Errorf("%v: %v, %v; expected false", what, subset, ok)
	}
}

// run returns the numbers from first to last.
func run(first, last int) []int {
	var numbers []int
	for x := first; x <= last; x++ {
		numbers = append(numbers, x)
	}
	return numbers
}

// steps returns count numbers from first in equal steps.
func steps(first, step, count int) []int {
	numbers := make([]int, count)
	for i := range numbers {
		numbers[i] = first + i*step
	}
	return numbers
}

// without returns the numbers 0 to n - 1 except one.
func without(n, x int) []int { return append(run(0, x-1), run(x+1, n-1)...) }

// ones returns as many parts of 1, and behind them a part of another size.
func ones(count, last int) []int { return append(steps(1, 0, count), last) }

// subsets returns all subsets of size k of n numbers, sorted by comparing
// their numbers from the first one on.
func subsets(n, k int) [][]int {
	var all [][]int
	for bits := range 1 << n {
		var subset []int
		for x := range n {
			if bits>>x&1 == 1 {
				subset = append(subset, x)
			}
		}
		if len(subset) == k {
			all = append(all, subset)
		}
	}
	slices.SortFunc(all, slices.Compare)
	return all
}

// some returns a few numbers of subsets to look at, of which there are count:
// the first ones, the last ones, and some between them.
func some(source *rand.Rand, count *big.Int) []*big.Int {
	last := new(big.Int).Sub(count, big.NewInt(1))
	list := []*big.Int{new(big.Int), last, new(big.Int).Rsh(last, 1), new(big.Int).Rand(source, count), new(big.Int).Rand(source, count)}
	// A power of 2^32 and its neighbors have different numbers of limbs.
	for _, shift := range []uint{32, 64} {
		power := new(big.Int).Lsh(big.NewInt(1), shift)
		list = append(list, new(big.Int).Sub(power, big.NewInt(1)), power, new(big.Int).Add(power, big.NewInt(1)))
	}
	return slices.DeleteFunc(list, func(rank *big.Int) bool { return rank.Cmp(count) >= 0 })
}

func TestP6_1Factorial(t *testing.T) {
	for _, c := range []struct {
		n    int
		want string
	}{
		{0, "1"}, {1, "1"}, {2, "2"}, {3, "6"}, {4, "24"}, {5, "120"}, {12, "479001600"}, {13, "6227020800"}, {20, "2432902008176640000"},
		{21, "51090942171709440000"}, {25, "15511210043330985984000000"}, {34, "295232799039604140847618609643520000000"},
	} {
		got, ok := combin.Factorial(c.n)
		is(t, got, ok, read(c.want), "Factorial", c.n)
	}
	for n := range limit + 1 {
		got, ok := combin.Factorial(n)
		is(t, got, ok, factorial(n), "Factorial", n)
	}
	for _, n := range beyond {
		got, ok := combin.Factorial(n)
		none(t, got, ok, "Factorial", n)
	}
}

func TestP6_1Choose(t *testing.T) {
	for _, c := range []struct {
		n, k int
		want string
	}{
		{0, 0, "1"}, {1, 0, "1"}, {1, 1, "1"}, {5, 2, "10"}, {6, 3, "20"}, {10, 5, "252"}, {200, 0, "1"}, {200, 1, "200"}, {200, 2, "19900"}, {200, 199, "200"}, {200, 200, "1"},
		{34, 17, "2333606220"}, {35, 17, "4537567650"}, {35, 18, "4537567650"}, {67, 33, "14226520737620288370"}, {68, 34, "28453041475240576740"},
		{200, 100, "90548514656103281165404177077484163874504589675413336841320"},
		// Sizes that no subset has.
		{0, 1, "0"}, {0, -1, "0"}, {5, 6, "0"}, {5, -1, "0"}, {200, 201, "0"}, {200, -1, "0"},
	} {
		got, ok := combin.Choose(c.n, c.k)
		is(t, got, ok, read(c.want), "Choose", c.n, c.k)
	}
	for n := range limit + 1 {
		for k := -2; k <= n+2; k++ {
			got, ok := combin.Choose(n, k)
			is(t, got, ok, choose(n, k), "Choose", n, k)
		}
	}
}

func TestP6_1ChooseOutOfRange(t *testing.T) {
	for _, n := range []int{0, 1, 2, 5, 100, 199, 200} {
		for _, k := range append([]int{-n - 1, n + 1}, beyond...) {
			got, ok := combin.Choose(n, k)
			is(t, got, ok, choose(n, k), "Choose", n, k)
			if len(got) != 0 {
				t.Errorf("Choose(%d, %d): %v", n, k, got)
			}
		}
	}
	for _, n := range beyond {
		for _, k := range append([]int{0, 1, 5, n - 1, n, n + 1, -n}, beyond...) {
			got, ok := combin.Choose(n, k)
			none(t, got, ok, "Choose", n, k)
		}
	}
}

func TestP6_1Multinomial(t *testing.T) {
	for _, c := range []struct {
		parts []int
		want  string
	}{
		{nil, "1"}, {[]int{}, "1"}, {[]int{0}, "1"}, {[]int{0, 0, 0}, "1"}, {[]int{5}, "1"}, {[]int{200}, "1"}, {[]int{200, 0}, "1"}, {[]int{0, 200}, "1"},
		{[]int{2, 1, 1}, "12"}, {[]int{3, 0, 2}, "10"}, {[]int{3, 2}, "10"}, {[]int{1, 1}, "2"}, {[]int{1, 199}, "200"}, {[]int{2, 198}, "19900"},
		{[]int{10, 10, 10}, "5550996791340"}, {[]int{11, 12, 13}, "3124367780788800"}, {[]int{1, 2, 3, 4, 5, 6, 7}, "2431106898187968000"},
		{[]int{50, 50, 50, 50}, "921699071841671813653946346400276995473311694044110837079029883547709851703401119102724557065804713566129306845227520"},
		{make([]int, 200), "1"}, {make([]int, 201), "1"}, {append(make([]int, 200), 200), "1"}, {append([]int{200}, make([]int, 200)...), "1"},
	} {
		got, ok := combin.Multinomial(c.parts)
		is(t, got, ok, read(c.want), "Multinomial", c.parts)
	}
	// A factorial is the number of ways to divide a set into subsets of one element.
	for _, parts := range [][]int{ones(199, 1), ones(200, 0), append([]int{0}, ones(199, 1)...)} {
		got, ok := combin.Multinomial(parts)
		is(t, got, ok, factorial(200), "Multinomial", parts)
	}
	for _, parts := range partsOf(1, 500) {
		got, ok := combin.Multinomial(parts)
		is(t, got, ok, multinomial(parts), "Multinomial", parts)
	}
}

// partsOf returns lists of parts whose sum is at most the limit, and often
// the limit itself; the same ones in every run.
func partsOf(seed int64, count int) [][]int {
	source := rand.New(rand.NewSource(seed))
	var lists [][]int
	for range count {
		left, most := limit, 1+source.Intn(limit)
		var parts []int
		for range source.Intn(40) {
			part := source.Intn(min(left, most) + 1)
			parts = append(parts, part)
			left -= part
		}
		if source.Intn(2) == 0 {
			parts = append(parts, left)
		}
		lists = append(lists, parts)
	}
	return lists
}

func TestP6_1MultinomialOutOfRange(t *testing.T) {
	for _, parts := range [][]int{
		// A sum above the limit.
		{201}, {200, 1}, {1, 200}, {100, 101}, {100, 100, 1}, {0, 201}, {201, 0}, {201, 1}, {200, 200}, ones(200, 1), append(make([]int, 199), 200, 1),
		// A sum beyond an int; some come back into the range when they overflow.
		{math.MaxInt}, {math.MaxInt, 1}, {1, math.MaxInt}, {200, math.MaxInt}, {math.MaxInt, math.MaxInt}, {math.MaxInt, math.MaxInt, 2}, {math.MaxInt, math.MaxInt, 7},
		{5, math.MaxInt, math.MaxInt, 2}, {1, math.MaxInt, math.MaxInt}, {1 << 62, 1 << 62, 1 << 62, 1 << 62}, {3, 1 << 62, 1 << 62, 1 << 62, 1 << 62},
		{1 << 32, 1 << 32}, {1 << 32}, {math.MaxInt32, math.MaxInt32, 2}, slices.Repeat([]int{1 << 60}, 16), slices.Repeat([]int{math.MaxInt}, 201),
		// A negative part.
		{-1}, {5, -1}, {-1, 5}, {-1, 6, -2}, {0, -1}, {-1, 0}, {-200}, {201, -1}, {-1, 201}, {200, -1, 1}, {math.MinInt}, {math.MinInt, math.MinInt}, {5, math.MinInt}, {math.MinInt, 5},
		{math.MaxInt, math.MinInt}, {math.MinInt, math.MaxInt, 5}, {math.MinInt, 1 << 62, 1 << 62, 3}, {1 << 62, 1 << 62, math.MinInt, 3}, append(make([]int, 200), -1), append([]int{-1}, make([]int, 200)...),
		// Too many parts.
		make([]int, 202), make([]int, 203), make([]int, 1000), ones(201, 0), append(make([]int, 201), 200), append(make([]int, 201), 1), append([]int{5}, make([]int, 201)...), make([]int, 100000),
		append(make([]int, 201), -1), append(make([]int, 201), 201), append(make([]int, 201), math.MaxInt), append(make([]int, 201), math.MinInt),
	} {
		got, ok := combin.Multinomial(parts)
		none(t, got, ok, "Multinomial", len(parts), parts[:min(len(parts), 5)])
	}
}

func TestP6_1SubsetsInOrder(t *testing.T) {
	for n := range 10 {
		for k := range n + 1 {
			all := subsets(n, k)
			for i, subset := range all {
				rank := big.NewInt(int64(i))
				got, ok := combin.Rank(n, subset)
				is(t, got, ok, rank, "Rank", n, subset)
				unranked, ok := combin.Unrank(n, k, natOf(rank))
				isSubset(t, unranked, ok, subset, "Unrank", n, k, i)
				next, ok := combin.Next(n, subset)
				if i+1 < len(all) {
					isSubset(t, next, ok, all[i+1], "Next", n, subset)
				} else {
					noSubset(t, next, ok, "Next", n, subset)
				}
			}
			unranked, ok := combin.Unrank(n, k, natOf(big.NewInt(int64(len(all)))))
			noSubset(t, unranked, ok, "Unrank", n, k, len(all))
		}
	}
}

// ranked are subsets and their ranks.
var ranked = []struct {
	n      int
	subset []int
	rank   string
}{
	{0, nil, "0"}, {1, nil, "0"}, {7, []int{}, "0"}, {200, nil, "0"},
	{1, []int{0}, "0"}, {4, []int{0, 1}, "0"}, {4, []int{0, 3}, "2"}, {4, []int{1, 2}, "3"}, {4, []int{2, 3}, "5"}, {6, []int{0, 1, 2}, "0"}, {6, []int{3, 4, 5}, "19"},
	{200, []int{0}, "0"}, {200, []int{198}, "198"}, {200, []int{199}, "199"}, {200, []int{0, 199}, "198"}, {199, []int{197, 198}, "19700"},
	{200, []int{0, 1, 2}, "0"}, {200, []int{196, 198, 199}, "1313398"}, {200, []int{197, 198, 199}, "1313399"},
	{200, run(0, 199), "0"}, {200, run(0, 198), "0"}, {200, without(200, 196), "3"}, {200, run(1, 199), "199"},
	{100, []int{10, 20, 30, 40, 50, 60, 70, 80, 90}, "1239389801506"}, {40, []int{5, 7, 11, 13, 17, 19, 23, 29, 31, 37}, "684625595"}, {40, []int{3, 5, 11, 12, 15, 18, 28, 30, 35, 36}, "536870912"},
	{200, []int{0, 2, 56, 155, 158, 160, 187}, "4294967295"}, {200, []int{0, 2, 56, 155, 158, 160, 188}, "4294967296"}, {200, []int{0, 2, 56, 155, 158, 160, 189}, "4294967297"},
	{40, []int{0, 1, 2, 3, 5, 7, 9, 10, 12, 13, 14, 15, 18, 21, 22, 31, 32, 35, 36, 38}, "4294967296"},
	{200, []int{0, 1, 5, 66, 68, 84, 96, 111, 112, 120, 121, 137, 152, 191, 196}, "18446744073709551615"},
	{200, []int{0, 1, 5, 66, 68, 84, 96, 111, 112, 120, 121, 137, 152, 191, 197}, "18446744073709551616"},
	{70, []int{1, 3, 4, 9, 11, 13, 14, 15, 18, 20, 21, 22, 24, 26, 27, 29, 32, 33, 35, 39, 40, 41, 44, 48, 49, 51, 52, 53, 54, 55, 57, 58, 59, 62, 68}, "73786976294838218809"},
	{200, steps(0, 2, 100), "30081205467651711386692207547235691107741732770829991864270"}, {200, steps(1, 2, 100), "60467309188451569778711969530248472766762856904583344977049"},
	{200, run(0, 99), "0"}, {200, run(100, 199), "90548514656103281165404177077484163874504589675413336841319"},
}

func TestP6_1RankUnrank(t *testing.T) {
	for _, c := range ranked {
		got, ok := combin.Rank(c.n, c.subset)
		is(t, got, ok, read(c.rank), "Rank", c.n, c.subset)
		for _, zeros := range []int{0, 1, 2, 9} {
			rank := append(natOf(read(c.rank)), make(api.Nat, zeros)...)
			unranked, ok := combin.Unrank(c.n, len(c.subset), rank)
			isSubset(t, unranked, ok, c.subset, "Unrank", c.n, len(c.subset), rank)
		}
	}
}

// changed returns a copy with another number at an index.
func changed(subset []int, i, x int) []int {
	subset = slices.Clone(subset)
	subset[i] = x
	return subset
}

func TestP6_1NoSubset(t *testing.T) {
	middle := []int{1, 3, 4}
	cases := []struct {
		n      int
		subset []int
	}{
		// Not rising, or repeated.
		{5, []int{1, 1}}, {5, []int{2, 1}}, {5, []int{0, 0}}, {5, []int{4, 4}}, {5, []int{0, 1, 1}}, {5, []int{0, 2, 1}}, {5, []int{3, 0, 4}}, {5, []int{4, 3, 2, 1, 0}}, {5, []int{0, 1, 2, 3, 4, 4}}, {5, []int{0, 1, 2, 3, 4, 0}},
		{200, append(run(0, 199), 199)}, {200, append(run(0, 199), 0)}, {200, append([]int{0}, run(0, 199)...)}, {200, steps(100, 0, 2)}, {200, make([]int, 100000)},
		// Below 0.
		{5, []int{-1}}, {5, []int{-1, 2}}, {5, []int{-2, -1}}, {5, []int{2, -1}}, {5, []int{math.MinInt}}, {5, []int{math.MinInt, 0}}, {5, []int{-1, 0, 1, 2, 3, 4}}, {200, run(-1, 199)}, {0, []int{-1}}, {1, []int{-1, 0}},
		// Not below n.
		{5, []int{5}}, {5, []int{0, 5}}, {5, []int{4, 5}}, {5, []int{6}}, {5, []int{5, 2}}, {5, run(0, 5)}, {5, []int{math.MaxInt}}, {5, []int{0, math.MaxInt}}, {5, []int{math.MaxInt, 0}}, {5, []int{math.MinInt, math.MaxInt}}, {5, []int{1 << 32, 1<<32 + 1}},
		{0, []int{0}}, {1, []int{1}}, {1, []int{0, 1}}, {199, []int{199}}, {200, []int{200}}, {200, run(0, 200)}, {200, []int{0, 200}}, {200, run(0, 1000)},
	}
	for i := range middle {
		for _, x := range []int{-1, 5, 6, math.MinInt, math.MaxInt} {
			cases = append(cases, struct {
				n      int
				subset []int
			}{5, changed(middle, i, x)})
		}
	}
	for _, c := range cases {
		got, ok := combin.Rank(c.n, c.subset)
		none(t, got, ok, "Rank", c.n, c.subset[:min(len(c.subset), 10)])
		next, ok := combin.Next(c.n, c.subset)
		noSubset(t, next, ok, "Next", c.n, c.subset[:min(len(c.subset), 10)])
	}
}

func TestP6_1SubsetsOfNumbersOutOfRange(t *testing.T) {
	for _, n := range beyond {
		for _, subset := range [][]int{nil, {}, {0}, {-1}, {n - 1}, {n}, {0, 1}, {1, 0}, {198, 199}, {200}, run(0, 199), run(0, 200), run(0, 150)} {
			got, ok := combin.Rank(n, subset)
			none(t, got, ok, "Rank", n, subset)
			next, ok := combin.Next(n, subset)
			noSubset(t, next, ok, "Next", n, subset)
		}
		for _, k := range append([]int{0, 1, 2, n - 1, n, n + 1, -n}, beyond...) {
			for _, rank := range []api.Nat{nil, {0}, {1}, {5, 0}, {0, 1}, {top, top, top}} {
				subset, ok := combin.Unrank(n, k, rank)
				noSubset(t, subset, ok, "Unrank", n, k, rank)
			}
		}
	}
}

func TestP6_1UnrankOutOfRange(t *testing.T) {
	for _, n := range []int{0, 1, 2, 5, 35, 68, 199, 200} {
		for _, k := range append([]int{-n - 1, n + 1, n + 2}, beyond...) {
			for _, rank := range []api.Nat{nil, {0}, {1}, {0, 0, 1}} {
				if k >= 0 && k <= n {
					continue
				}
				subset, ok := combin.Unrank(n, k, rank)
				noSubset(t, subset, ok, "Unrank", n, k, rank)
			}
		}
		for k := range n + 1 {
			count := choose(n, k)
			last, first := new(big.Int).Sub(count, big.NewInt(1)), natOf(count)
			subset, ok := combin.Unrank(n, k, append(natOf(last), 0, 0, 0))
			isSubset(t, subset, ok, run(n-k, n-1), "Unrank", n, k, last)
			// Too high: by 1, by more, only by a limb above those of the count, and by one far above them.
			for _, rank := range []api.Nat{
				first, append(slices.Clone(first), 0), append(slices.Clone(first), 0, 0, 0, 0), natOf(new(big.Int).Add(count, big.NewInt(1))), natOf(new(big.Int).Lsh(count, 1)),
				append(slices.Clone(first), 1), append(make(api.Nat, len(first)), 1), append(make(api.Nat, len(first)), 1, 0), append(make(api.Nat, 1000), 1), slices.Repeat(api.Nat{top}, 50),
			} {
				subset, ok := combin.Unrank(n, k, rank)
				noSubset(t, subset, ok, "Unrank", n, k, rank)
			}
		}
	}
}

func TestP6_1Next(t *testing.T) {
	for _, c := range []struct {
		n            int
		subset, want []int
	}{
		{4, []int{0, 1}, []int{0, 2}}, {4, []int{0, 2}, []int{0, 3}}, {4, []int{0, 3}, []int{1, 2}}, {4, []int{1, 2}, []int{1, 3}}, {4, []int{1, 3}, []int{2, 3}},
		{6, []int{0, 4, 5}, []int{1, 2, 3}}, {6, []int{1, 2, 5}, []int{1, 3, 4}}, {6, []int{0, 1, 5}, []int{0, 2, 3}}, {8, []int{0, 5, 6, 7}, []int{1, 2, 3, 4}}, {8, []int{0, 3, 6, 7}, []int{0, 4, 5, 6}},
		{2, []int{0}, []int{1}}, {200, []int{0}, []int{1}}, {200, []int{198}, []int{199}}, {200, []int{0, 199}, []int{1, 2}}, {200, []int{196, 198, 199}, []int{197, 198, 199}},
		{200, run(0, 198), without(200, 198)}, {200, without(200, 1), run(1, 199)}, {200, append([]int{0}, run(101, 199)...), run(1, 100)}, {200, run(99, 198), append(run(99, 197), 199)},
	} {
		next, ok := combin.Next(c.n, c.subset)
		isSubset(t, next, ok, c.want, "Next", c.n, c.subset)
	}
	for n := range limit + 1 {
		for _, k := range []int{0, 1, 2, n / 2, n - 1, n} {
			if k < 0 || k > n {
				continue
			}
			next, ok := combin.Next(n, run(n-k, n-1))
			noSubset(t, next, ok, "Next after the last one", n, k)
		}
	}
}

func TestP6_2EveryNumberAndSize(t *testing.T) {
	source := rand.New(rand.NewSource(2))
	for n := range limit + 1 {
		for k := range n + 1 {
			// For all sizes of all numbers, all ranks would take too long.
			ranks := some(source, choose(n, k))
			checkRank(t, n, k, ranks[source.Intn(len(ranks))])
			if n < 25 || n%25 == 0 {
				for _, rank := range ranks {
					checkRank(t, n, k, rank)
				}
			}
			if t.Failed() {
				t.Fatal("of", n, "numbers, size", k)
			}
		}
	}
}

// checkRank checks the subset at a rank, and the one that follows it.
func checkRank(t *testing.T, n, k int, rank *big.Int) {
	t.Helper()
	subset, ok := combin.Unrank(n, k, natOf(rank))
	if !ok || len(subset) != k || rankOf(n, subset).Cmp(rank) != 0 {
		t.Errorf("Unrank(%d, %d, %v): %v, %v", n, k, rank, subset, ok)
	}
	got, ok := combin.Rank(n, subset)
	is(t, got, ok, rank, "Rank", n, subset)
	next, ok := combin.Next(n, subset)
	after := new(big.Int).Add(rank, big.NewInt(1))
	if after.Cmp(choose(n, k)) == 0 {
		noSubset(t, next, ok, "Next", n, subset)
		return
	}
	following, _ := combin.Unrank(n, k, natOf(after))
	isSubset(t, next, ok, following, "Next", n, subset)
	got, ok = combin.Rank(n, next)
	is(t, got, ok, after, "Rank", n, next)
}

func TestP6_2FromTheFirstToTheLast(t *testing.T) {
	for n := range 13 {
		for k := range n + 1 {
			subset, more := run(0, k-1), true
			count := 0
			for more {
				rank, ok := combin.Rank(n, subset)
				is(t, rank, ok, big.NewInt(int64(count)), "Rank", n, subset)
				back, ok := combin.Unrank(n, k, rank)
				isSubset(t, back, ok, subset, "Unrank", n, k, rank)
				subset, more = combin.Next(n, subset)
				count++
			}
			if choose(n, k).Cmp(big.NewInt(int64(count))) != 0 {
				t.Errorf("%d subsets of size %d of %d numbers", count, k, n)
			}
		}
	}
}

func TestP6_2AcrossLimbs(t *testing.T) {
	for _, c := range []struct{ n, k int }{{40, 20}, {70, 35}, {200, 7}, {200, 100}, {200, 190}} {
		for _, start := range []string{"4294967290", "18446744073709551610", "79228162514264337593543950330"} {
			rank := read(start)
			if choose(c.n, c.k).Cmp(rank) <= 0 {
				continue
			}
			subset, _ := combin.Unrank(c.n, c.k, natOf(rank))
			for range 12 {
				got, ok := combin.Rank(c.n, subset)
				is(t, got, ok, rank, "Rank", c.n, subset)
				rank.Add(rank, big.NewInt(1))
				subset, _ = combin.Next(c.n, subset)
			}
		}
	}
}

func TestP6_2RandomSubsets(t *testing.T) {
	source := rand.New(rand.NewSource(3))
	for range 500 {
		n := 1 + source.Intn(limit)
		subset := source.Perm(n)[:source.Intn(n+1)]
		slices.Sort(subset)
		rank, ok := combin.Rank(n, subset)
		is(t, rank, ok, rankOf(n, subset), "Rank", n, subset)
		back, ok := combin.Unrank(n, len(subset), rank)
		isSubset(t, back, ok, subset, "Unrank", n, len(subset), rank)
	}
}

// chosen returns a binomial coefficient of the program as a value.
func chosen(t *testing.T, n, k int) *big.Int {
	t.Helper()
	count, ok := combin.Choose(n, k)
	if !ok {
		t.Fatalf("Choose(%d, %d) is out of range", n, k)
	}
	return bigOf(count)
}

func TestP6_3Laws(t *testing.T) {
	product := func(n int) *big.Int {
		value, ok := combin.Factorial(n)
		if !ok {
			t.Fatalf("Factorial(%d) is out of range", n)
		}
		return bigOf(value)
	}
	for n := range limit + 1 {
		for k := -1; k <= n+1; k++ {
			count := chosen(t, n, k)
			if n > 0 && count.Cmp(new(big.Int).Add(chosen(t, n-1, k-1), chosen(t, n-1, k))) != 0 {
				t.Fatalf("Choose(%d, %d) is not the sum of the two above it", n, k)
			}
			if count.Cmp(chosen(t, n, n-k)) != 0 {
				t.Fatalf("Choose(%d, %d) is not Choose(%d, %d)", n, k, n, n-k)
			}
			if k < 0 || k > n {
				continue
			}
			all := new(big.Int).Mul(count, product(k))
			if all.Mul(all, product(n-k)).Cmp(product(n)) != 0 {
				t.Fatalf("Choose(%d, %d) times %d! times %d! is not %d!", n, k, k, n-k, n)
			}
		}
	}
}

func TestP6_4Order(t *testing.T) {
	source := rand.New(rand.NewSource(4))
	for _, parts := range append(partsOf(5, 100), []int{0, 0, 3, 2}, []int{200, 0}, []int{199, 1}, ones(150, 50), append(make([]int, 200), 7)) {
		want, ok := combin.Multinomial(parts)
		if !ok {
			t.Fatal("out of range:", parts)
		}
		shuffled := slices.Clone(parts)
		for range 5 {
			source.Shuffle(len(shuffled), func(i, j int) { shuffled[i], shuffled[j] = shuffled[j], shuffled[i] })
			got, ok := combin.Multinomial(shuffled)
			is(t, got, ok, bigOf(want), "Multinomial", shuffled)
		}
	}
	// Neither does it depend on the order whether the parts are out of range.
	for _, parts := range [][]int{{200, 1, 0}, {-1, 3, 0}, {math.MaxInt, math.MaxInt, 2}, {201, -1, 0}, {math.MinInt, math.MaxInt, 5}} {
		for _, order := range [][]int{{0, 1, 2}, {0, 2, 1}, {1, 0, 2}, {1, 2, 0}, {2, 0, 1}, {2, 1, 0}} {
			list := []int{parts[order[0]], parts[order[1]], parts[order[2]]}
			got, ok := combin.Multinomial(list)
			none(t, got, ok, "Multinomial", list)
		}
	}
}

func TestP6_4PartialSums(t *testing.T) {
	for _, parts := range append(partsOf(6, 300), nil, []int{0}, []int{200}, []int{0, 0, 3, 2}, []int{2, 1, 1}, ones(199, 1)) {
		product, sum := big.NewInt(1), 0
		for _, part := range parts {
			sum += part
			product.Mul(product, chosen(t, sum, part))
		}
		got, ok := combin.Multinomial(parts)
		is(t, got, ok, product, "Multinomial", parts)
	}
	for n := range limit + 1 {
		for k := range n + 1 {
			got, ok := combin.Multinomial([]int{k, n - k})
			is(t, got, ok, chosen(t, n, k), "Multinomial", k, n-k)
		}
	}
}

// results returns every number and subset that the functions return for a
// subset of n numbers and a rank of its size.
func results(n int, subset []int, rank api.Nat) ([]api.Nat, [][]int) {
	product, _ := combin.Factorial(n)
	count, _ := combin.Choose(n, len(subset))
	position, _ := combin.Rank(n, subset)
	// The numbers of a subset are parts, too.
	ways, _ := combin.Multinomial(subset)
	unranked, _ := combin.Unrank(n, len(subset), rank)
	next, _ := combin.Next(n, subset)
	return []api.Nat{product, count, position, ways}, [][]int{unranked, next}
}

// overwrite changes all the memory of a slice, its spare capacity too.
func overwrite[E uint32 | int](a []E, x E) {
	for i := range a[:cap(a)] {
		a[:cap(a)][i] = x
	}
}

func TestP2ArgumentsAndResultsAreApart(t *testing.T) {
	cases := []struct {
		n      int
		subset []int
		rank   api.Nat
	}{
		{0, nil, nil}, {0, []int{}, api.Nat{0, 0}}, {5, nil, api.Nat{0}}, {1, []int{0}, nil}, {4, []int{0, 3}, api.Nat{2}}, {4, []int{2, 3}, api.Nat{5, 0, 0}}, {4, []int{2, 3}, api.Nat{6}},
		{5, []int{1, 1}, api.Nat{1}}, {5, []int{3, 1}, api.Nat{9, 0}}, {40, []int{0, 5, 39}, api.Nat{1000, 0}}, {201, []int{0, 5}, api.Nat{1}}, {60, []int{1, 2, 9, 10, 11, 20, 22, 33, 40, 41, 55, 59}, api.Nat{77, 3, 0}},
		{200, run(50, 149), api.Nat{1, 2, 3, 4, 0}}, {200, steps(1, 2, 100), natOf(read("18446744073709551616"))},
	}
	for _, c := range cases {
		// The arguments are parts of longer slices, whose rest must not change either.
		subset, rank := append(slices.Clone(c.subset), 77, 78)[:len(c.subset)], append(slices.Clone(c.rank), 77, 78)[:len(c.rank)]
		numbers, lists := results(c.n, subset, rank)
		if !slices.Equal(subset[:len(subset)+2], append(slices.Clone(c.subset), 77, 78)) || !slices.Equal(rank[:len(rank)+2], append(slices.Clone(c.rank), 77, 78)) {
			t.Fatalf("an argument was modified: %v, %v", c.subset, c.rank)
		}
		wantNumbers, wantLists := results(c.n, slices.Clone(c.subset), slices.Clone(c.rank))
		overwrite(subset, -7)
		overwrite(rank, 0xdeadbeef)
		for i := range numbers {
			if !slices.Equal(numbers[i], wantNumbers[i]) {
				t.Fatalf("number %d for %d, %v shares memory with an argument or a result", i, c.n, c.subset)
			}
			overwrite(numbers[i], 0xdeadbeef)
		}
		for i := range lists {
			if !slices.Equal(lists[i], wantLists[i]) {
				t.Fatalf("subset %d for %d, %v shares memory with an argument or a result", i, c.n, c.subset)
			}
			overwrite(lists[i], -7)
		}
		// What the caller does with results changes no later call.
		if again, listsAgain := results(c.n, c.subset, c.rank); !slices.EqualFunc(again, wantNumbers, slices.Equal) || !slices.EqualFunc(listsAgain, wantLists, slices.Equal) {
			t.Fatalf("a later call for %d, %v depends on an earlier result", c.n, c.subset)
		}
	}
}

func TestExamplesOfTheChapter(t *testing.T) {
	got, ok := combin.Choose(6, 3)
	is(t, got, ok, big.NewInt(20), "Choose(6, 3)")
	first, ok := combin.Unrank(6, 3, nil)
	isSubset(t, first, ok, []int{0, 1, 2}, "the first one")
	last, ok := combin.Unrank(6, 3, api.Nat{19})
	isSubset(t, last, ok, []int{3, 4, 5}, "the last one")
	got, ok = combin.Multinomial([]int{3, 0, 2})
	is(t, got, ok, big.NewInt(10), "Multinomial(3, 0, 2)")
	got, ok = combin.Multinomial([]int{200, 1})
	none(t, got, ok, "Multinomial(200, 1)")
	for _, subset := range [][]int{{1, 1}, {2, 1}, {0, 5}} {
		got, ok = combin.Rank(5, subset)
		none(t, got, ok, "Rank", 5, subset)
	}
}
