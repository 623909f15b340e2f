package exact_test

import (
	"math"
	"math/big"
	"math/rand"
	"slices"
	"strings"
	"testing"

	"examboard/api"
	"examboard/exact"
)

const (
	most = 121 // MaxSupport
	top  = math.MaxUint32
)

// far are numbers that are neither a value nor a number of trials or objects.
var far = []int{-1, -2, -120, -121, -122, 121, 122, 123, 200, 255, 256, 512, 1 << 16, math.MaxInt32, math.MinInt32, 1 << 32, 1<<32 + 5, -1 << 32, math.MaxInt - 120, math.MaxInt - 1, math.MaxInt, math.MinInt + 1, math.MinInt}

// bigNat is the reference: it reads the limbs by the definition of their value.
func bigNat(a api.Nat) *big.Int {
	value := new(big.Int)
	for i := len(a) - 1; i >= 0; i-- {
		value.Lsh(value, 32).Or(value, new(big.Int).SetUint64(uint64(a[i])))
	}
	return value
}

func natOf(value *big.Int) api.Nat {
	var a api.Nat
	for rest := new(big.Int).Set(value); rest.Sign() > 0; rest.Rsh(rest, 32) {
		a = append(a, uint32(new(big.Int).And(rest, big.NewInt(top)).Uint64()))
	}
	return a
}

// bigOf reads a ratio by the definition of its value.
func bigOf(a api.Ratio) *big.Rat {
	den := bigNat(a.Den)
	if den.Sign() == 0 {
		return new(big.Rat)
	}
	num := bigNat(a.Num.Mag)
	if a.Num.Neg {
		num.Neg(num)
	}
	return new(big.Rat).SetFrac(num, den)
}

func bigsOf(list []api.Ratio) []*big.Rat {
	values := make([]*big.Rat, len(list))
	for i, a := range list {
		values[i] = bigOf(a)
	}
	return values
}

// ratioOf makes the normal form of a value.
func ratioOf(value *big.Rat) api.Ratio {
	mag := natOf(new(big.Int).Abs(value.Num()))
	return api.Ratio{Num: api.Int{Neg: value.Sign() < 0, Mag: mag}, Den: natOf(value.Denom())}
}

// same tells whether two ratios have the same sign and the same limbs.
func same(a, b api.Ratio) bool {
	return a.Num.Neg == b.Num.Neg && slices.Equal(a.Num.Mag, b.Num.Mag) && slices.Equal(a.Den, b.Den)
}

// value reads a notation like that of read.
func value(s string) *big.Rat { return bigOf(read(s)) }

// integer reads a notation like 5, -5, 2^64 or 2^64-1.
func integer(s string) *big.Int {
	base, shift, power := strings.Cut(s, "^")
	if !power {
		n, ok := new(big.Int).SetString(s, 10)
		if !ok {
			panic(s)
		}
		return n
	}
	shift, less := strings.CutSuffix(shift, "-1")
	n := new(big.Int).Exp(integer(base), integer(shift), nil)
	if less {
		n.Sub(n, big.NewInt(1))
	}
	return n
}

// read makes a ratio of a notation like -7, 2/6, 5/0 or 2^64-1/2^65, as it
// stands: not in lowest terms if the notation is not.
func read(s string) api.Ratio {
	before, after, found := strings.Cut(s, "/")
	if !found {
		after = "1"
	}
	num := integer(before)
	return api.Ratio{Num: api.Int{Neg: num.Sign() < 0, Mag: natOf(new(big.Int).Abs(num))}, Den: natOf(integer(after))}
}

// list reads a list of ratios with a space between each two.
func list(s string) []api.Ratio {
	var d []api.Ratio
	for _, word := range strings.Fields(s) {
		d = append(d, read(word))
	}
	return d
}

// wide multiplies both parts of a ratio and puts high zero limbs on them.
func wide(a api.Ratio, factor string, zeros int) api.Ratio {
	times := func(n api.Nat) api.Nat {
		product := new(big.Int).Mul(bigNat(n), integer(factor))
		return append(natOf(product), make(api.Nat, zeros)...)
	}
	return api.Ratio{Num: api.Int{Neg: a.Num.Neg, Mag: times(a.Num.Mag)}, Den: times(a.Den)}
}

// forms returns the number in several forms, the normal form first.
func forms(a api.Ratio) []api.Ratio {
	all := []api.Ratio{ratioOf(bigOf(a)), wide(a, "1", 1), wide(a, "6", 0), wide(a, "2^32", 2), wide(a, "2^96-1", 1)}
	if bigOf(a).Sign() == 0 {
		seven := api.Nat{7, 0}
		all = append(all, api.Ratio{}, api.Ratio{Den: seven}, api.Ratio{Num: api.Int{Neg: true}, Den: seven}, api.Ratio{Num: api.Int{Neg: true, Mag: api.Nat{0, 0}}, Den: api.Nat{0, 1}},
			api.Ratio{Num: api.Int{Mag: seven}}, api.Ratio{Num: api.Int{Neg: true, Mag: seven}, Den: api.Nat{0, 0}}, api.Ratio{Num: api.Int{Neg: true, Mag: api.Nat{0, 0, 5}}, Den: api.Nat{}})
	}
	return all
}

// mixed returns the list with each number in a form of its own.
func mixed(source *rand.Rand, d []api.Ratio) []api.Ratio {
	other := make([]api.Ratio, len(d))
	for i, a := range d {
		all := forms(a)
		other[i] = all[source.Intn(len(all))]
	}
	return other
}

// zeros returns so many zeros, and behind them other elements.
func zeros(count int, behind ...api.Ratio) []api.Ratio {
	var d []api.Ratio
	for range count {
		d = append(d, read("0"))
	}
	return append(d, behind...)
}

// even returns a distribution of so many elements of the same size.
func even(count int) []api.Ratio {
	var d []api.Ratio
	for range count {
		d = append(d, ratioOf(big.NewRat(1, int64(count))))
	}
	return d
}

// weighted returns the distribution with these weights, one of which is not 0.
func weighted(weights []*big.Int) []api.Ratio {
	sum := new(big.Int)
	for _, weight := range weights {
		sum.Add(sum, weight)
	}
	d := make([]api.Ratio, len(weights))
	for i, weight := range weights {
		d[i] = ratioOf(new(big.Rat).SetFrac(weight, sum))
	}
	return d
}

// distributions returns distributions of every kind of size in mixed forms;
// some elements are 0 and some equal; the same ones in every run.
func distributions(seed int64, count int) [][]api.Ratio {
	source := rand.New(rand.NewSource(seed))
	all := [][]api.Ratio{list("1"), list("1/2 1/2"), list("0 1"), list("1 0 0 0"), list("1/6 2/3 1/6"), list("1/4 0 1/4 1/2 0 0"), even(7), even(most), zeros(120, read("1")), append(list("1"), zeros(120)...)}
	for range count {
		weights := make([]*big.Int, 1+source.Intn(12))
		if source.Intn(8) == 0 {
			weights = make([]*big.Int, most-source.Intn(3))
		}
		bits := uint(1 + source.Intn(100))
		for i := range weights {
			weights[i] = new(big.Int).Rand(source, new(big.Int).Lsh(big.NewInt(1), bits))
			if i > 0 && source.Intn(4) == 0 {
				weights[i] = weights[source.Intn(i)]
			}
		}
		weights[source.Intn(len(weights))] = big.NewInt(1 + source.Int63n(9))
		all = append(all, weighted(weights))
	}
	for i := range all {
		all[i] = mixed(source, all[i])
	}
	return all
}

// noDistributions are no distributions for one reason or for several.
func noDistributions() map[string][]api.Ratio {
	return map[string][]api.Ratio{
		"no element":                   nil,
		"an empty slice":               {},
		"0":                            list("0"),
		"5/0, which is 0":              list("5/0"),
		"the zero value":               make([]api.Ratio, 1),
		"zeros":                        zeros(121),
		"a sum of 5/6":                 list("1/2 1/3"),
		"a sum of 7/6":                 list("1/2 2/3"),
		"a sum just below 1":           list("1/2 2^64-1/2^65"),
		"a sum just above 1":           list("1/2^64 1"),
		"a sum of 2":                   list("1 1"),
		"a sum of 2^32 + 1":            list("1 2^32"),
		"a sum of 2^64":                list("2^64"),
		"1/2 and 1/0":                  list("1/2 1/0"),
		"1 and 1/2^200":                list("1 1/2^200"),
		"a sum of -1":                  list("-1"),
		"a negative element first":     list("-1/2 3/2"),
		"a negative element behind":    list("3/2 -1/2"),
		"a negative element between":   list("1 -1/3 1/3"),
		"a tiny negative element":      list("1 -1/2^70 1/2^70"),
		"negative and no sum of 1":     list("-1/2 1/2"),
		"a negative one in wide form":  {read("1"), wide(read("-1/3"), "2^32", 2), read("1/3")},
		"122 equal elements":           even(122),
		"122 elements, the first is 1": append(list("1"), zeros(121)...),
		"122 elements, the last is 1":  zeros(121, read("1")),
		"122 elements, 0/0 behind":     append(even(121), api.Ratio{}),
		"122 elements, one negative":   zeros(120, read("2"), read("-1")),
		"200 elements":                 even(200),
		"100000 elements":              append(list("1"), make([]api.Ratio, 99999)...),
	}
}

// is checks a ratio, which must be in normal form, and its error OK.
func is(t *testing.T, a api.Ratio, e api.Errno, want *big.Rat, what ...any) {
	t.Helper()
	if e != api.OK || !same(a, ratioOf(want)) {
		t.Errorf("%v: %v, %d; expected %v", what, a, e, want)
	}
}

// are checks a list of ratios, which must be in normal form, and its error OK.
func are(t *testing.T, d []api.Ratio, e api.Errno, want []*big.Rat, what ...any) {
	t.Helper()
	if e != api.OK || len(d) != len(want) {
		t.Errorf("%v: %d elements, %d; expected %d", what, len(d), e, len(want))
		return
	}
	for k, a := range d {
		if !same(a, ratioOf(want[k])) {
			t.Errorf("%v: element %d is %v; expected %v", what, k, a, want[k])
		}
	}
}

// fails checks an error and the zero value beside it.
func fails(t *testing.T, a api.Ratio, e, want api.Errno, what ...any) {
	t.Helper()
	if e != want || a.Num.Neg || len(a.Num.Mag) != 0 || len(a.Den) != 0 {
		t.Errorf("%v: %v, %d; expected nothing and %d", what, a, e, want)
	}
}

// failsAll checks an error and the empty slice beside it.
func failsAll(t *testing.T, d []api.Ratio, e, want api.Errno, what ...any) {
	t.Helper()
	if e != want || len(d) != 0 {
		t.Errorf("%v: %d elements, %d; expected none and %d", what, len(d), e, want)
	}
}

func TestP7_1Valid(t *testing.T) {
	for i, d := range distributions(1, 300) {
		if !exact.Valid(d) {
			t.Errorf("distribution %d is not valid: %v", i, bigsOf(d))
		}
		// A zero behind it may stand there as long as there are not too many elements.
		if got := exact.Valid(append(slices.Clip(d), api.Ratio{})); got != (len(d) < most) {
			t.Errorf("distribution %d with a zero behind: %v", i, got)
		}
		for _, difference := range []string{"1/7", "-1/7", "1/2^200", "-1/2^200"} {
			other := slices.Clone(d)
			at := i % len(d)
			other[at] = ratioOf(new(big.Rat).Add(bigOf(d[at]), value(difference)))
			if exact.Valid(other) {
				t.Errorf("distribution %d with %s more at %d is valid", i, difference, at)
			}
		}
	}
	for name, d := range noDistributions() {
		if exact.Valid(d) {
			t.Error("valid:", name)
		}
	}
}

func TestP7_1ValidForms(t *testing.T) {
	for _, s := range []string{"1", "0 1 0", "1/2 0 1/2", "1/3 1/6 1/2", "1/2^64 2^64-1/2^64"} {
		d := list(s)
		for i, a := range d {
			for _, form := range forms(a) {
				d[i] = form
				if !exact.Valid(d) {
					t.Errorf("%s with element %d as %v is not valid", s, i, form)
				}
			}
			// In that form the element counts as 0, and the sum is no longer 1.
			for _, form := range []api.Ratio{{Num: api.Int{Mag: api.Nat{1}}}, {Num: api.Int{Mag: api.Nat{1}}, Den: api.Nat{0, 0}}, {}} {
				d[i] = form
				if want := bigOf(a).Sign() == 0; exact.Valid(d) != want {
					t.Errorf("%s with element %d as %v: expected %v", s, i, form, want)
				}
			}
			d[i] = a
		}
	}
}

// mean is the definition: the sum of k d[k]; with squares, the sum of k^2 d[k].
func mean(d []*big.Rat, squares bool) *big.Rat {
	sum := new(big.Rat)
	for k, a := range d {
		factor := big.NewRat(int64(k), 1)
		if squares {
			factor.Mul(factor, factor)
		}
		sum.Add(sum, factor.Mul(factor, a))
	}
	return sum
}

func variance(d []*big.Rat) *big.Rat {
	square := mean(d, false)
	square.Mul(square, square)
	return square.Sub(mean(d, true), square)
}

func TestP7_1Moments(t *testing.T) {
	for _, c := range []struct {
		d              []api.Ratio
		mean, variance string
	}{
		{list("1"), "0", "0"}, {list("1 0 0 0"), "0", "0"}, {list("0 1"), "1", "0"}, {list("0 0 0 1 0"), "3", "0"}, {zeros(120, read("1")), "120", "0"},
		{list("1/2 1/2"), "1/2", "1/4"}, {list("1/3 1/2 1/6"), "5/6", "17/36"}, {list("1/2 0 1/2"), "1", "1"}, {list("1/6 2/3 1/6"), "1", "1/3"},
		{even(7), "3", "4"}, {even(121), "60", "1220"}, {append(list("1/2"), zeros(119, read("1/2"))...), "60", "3600"},
		{list("2^64-1/2^64 1/2^64"), "1/2^64", "2^64-1/2^128"}, {[]api.Ratio{wide(read("1"), "6", 2)}, "0", "0"}, {[]api.Ratio{read("5/0"), wide(read("1"), "2^32", 1)}, "1", "0"},
	} {
		got, e := exact.Mean(c.d)
		is(t, got, e, value(c.mean), "Mean", bigsOf(c.d))
		got, e = exact.Variance(c.d)
		is(t, got, e, value(c.variance), "Variance", bigsOf(c.d))
	}
	for i, d := range distributions(2, 300) {
		got, e := exact.Mean(d)
		is(t, got, e, mean(bigsOf(d), false), "Mean", i)
		got, e = exact.Variance(d)
		is(t, got, e, variance(bigsOf(d)), "Variance", i)
	}
	for name, d := range noDistributions() {
		got, e := exact.Mean(d)
		fails(t, got, e, api.ErrInvalid, "Mean", name)
		got, e = exact.Variance(d)
		fails(t, got, e, api.ErrInvalid, "Variance", name)
	}
}

// tail is the sum of the elements for which keep is true.
func tail(d []*big.Rat, keep func(i int) bool) *big.Rat {
	sum := new(big.Rat)
	for i, a := range d {
		if keep(i) {
			sum.Add(sum, a)
		}
	}
	return sum
}

// checkTails checks Upper, Lower and Both against their definition.
func checkTails(t *testing.T, d []api.Ratio, k int) {
	t.Helper()
	values := bigsOf(d)
	got, e := exact.Upper(d, k)
	is(t, got, e, tail(values, func(i int) bool { return i >= k }), "Upper", values, k)
	got, e = exact.Lower(d, k)
	is(t, got, e, tail(values, func(i int) bool { return i <= k }), "Lower", values, k)
	got, e = exact.Both(d, k)
	is(t, got, e, tail(values, func(i int) bool {
		return k >= 0 && k < len(d) && values[i].Cmp(values[k]) <= 0
	}), "Both", values, k)
}

func TestP7_2Tails(t *testing.T) {
	for _, c := range []struct {
		d                  string
		k                  int
		upper, lower, both string
	}{
		{"1", 0, "1", "1", "1"}, {"1", -1, "1", "0", "0"}, {"1", 1, "0", "1", "0"}, {"1", math.MaxInt, "0", "1", "0"}, {"1", math.MinInt, "1", "0", "0"},
		{"1/6 2/3 1/6", 0, "1", "1/6", "1/3"}, {"1/6 2/3 1/6", 1, "5/6", "5/6", "1"}, {"1/6 2/3 1/6", 2, "1/6", "1", "1/3"}, {"1/6 2/3 1/6", 3, "0", "1", "0"}, {"1/6 2/3 1/6", -1, "1", "0", "0"},
		{"1/2 1/2 0 0", 1, "1/2", "1", "1"}, {"1/2 1/2 0 0", 2, "0", "1", "0"}, {"1/2 1/2 0 0", 3, "0", "1", "0"}, {"1/2 1/2 0 0", 4, "0", "1", "0"},
		{"1/10 1/5 3/10 2/5", 0, "1", "1/10", "1/10"}, {"1/10 1/5 3/10 2/5", 1, "9/10", "3/10", "3/10"}, {"1/10 1/5 3/10 2/5", 2, "7/10", "3/5", "3/5"}, {"1/10 1/5 3/10 2/5", 3, "2/5", "1", "1"},
		{"2^64-1/2^65 1/2 1/2^65", 0, "1", "2^64-1/2^65", "1/2"}, {"2^64-1/2^65 1/2 1/2^65", 2, "1/2^65", "1", "1/2^65"},
	} {
		upper, e := exact.Upper(list(c.d), c.k)
		is(t, upper, e, value(c.upper), "Upper", c.d, c.k)
		lower, e := exact.Lower(list(c.d), c.k)
		is(t, lower, e, value(c.lower), "Lower", c.d, c.k)
		both, e := exact.Both(list(c.d), c.k)
		is(t, both, e, value(c.both), "Both", c.d, c.k)
	}
	for i, d := range distributions(3, 150) {
		for k := -2; k <= len(d)+1; k++ {
			// Of long distributions the ends and every tenth value are enough.
			if k < 3 || k > len(d)-3 || (k+i)%10 == 0 {
				checkTails(t, d, k)
			}
		}
	}
}

func TestP7_2TailsAtFarValues(t *testing.T) {
	for _, d := range [][]api.Ratio{list("1"), list("1/6 2/3 1/6"), list("0 0 1 0 0"), even(120), even(most), zeros(120, read("1"))} {
		for _, k := range far {
			checkTails(t, d, k)
			checkTails(t, d, k+len(d))
		}
	}
	for name, d := range noDistributions() {
		for _, k := range append([]int{0, 1, 60, 120, len(d) - 1, len(d)}, far...) {
			got, e := exact.Upper(d, k)
			fails(t, got, e, api.ErrInvalid, "Upper", name, k)
			got, e = exact.Lower(d, k)
			fails(t, got, e, api.ErrInvalid, "Lower", name, k)
			got, e = exact.Both(d, k)
			fails(t, got, e, api.ErrInvalid, "Both", name, k)
		}
	}
}

func TestP7_2BothWithEqualElements(t *testing.T) {
	// Seven elements are 1/16 in one form each, and 3/16, 3/8 and the zeros are not.
	equal := forms(read("1/16"))
	d := append(equal, read("3/16"), wide(read("2/32"), "5", 1), wide(read("1/16"), "2^64", 0), read("3/8"))
	d = append(d, forms(read("0"))...)
	for k, a := range bigsOf(d) {
		want := map[string]string{"1/16": "7/16", "3/16": "5/8", "3/8": "1", "0": "0"}[a.RatString()]
		got, e := exact.Both(d, k)
		is(t, got, e, value(want), "Both", k)
	}
	// An element that is greater by very little does not count.
	near := list("2^130-1/2^132 1/4 1/4 1/2^132 1/4")
	for k, want := range []string{"1/4", "1", "1", "1/2^132", "1"} {
		got, e := exact.Both(near, k)
		is(t, got, e, value(want), "Both near", k)
	}
	for k := range most {
		got, e := exact.Both(even(most), k)
		is(t, got, e, value("1"), "Both of equal elements", k)
	}
}
