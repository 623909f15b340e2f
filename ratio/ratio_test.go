package ratio_test

import (
	"fmt"
	"math"
	"math/big"
	"math/rand"
	"slices"
	"strings"
	"testing"

	"examboard/api"
	"examboard/ratio"
)

const top = math.MaxUint32

// edges are limbs at which carries, borrows and common divisors change.
var edges = []uint32{0, 0, 1, 2, 3, 6, 12, 1 << 16, 1<<31 - 1, 1 << 31, top - 1, top, top}

// zeroInts is the integer 0 in every form.
var zeroInts = []api.Int{
	{}, {Mag: api.Nat{}}, {Mag: api.Nat{0}}, {Mag: api.Nat{0, 0, 0}},
	{Neg: true}, {Neg: true, Mag: api.Nat{}}, {Neg: true, Mag: api.Nat{0}}, {Neg: true, Mag: api.Nat{0, 0, 0}},
}

// zeros returns the ratio 0 in every form: with a numerator of 0, with a
// denominator of 0, and with both.
func zeros() []api.Ratio {
	nums := append(slices.Clone(zeroInts), api.Int{Mag: api.Nat{5}}, api.Int{Neg: true, Mag: api.Nat{5}}, api.Int{Neg: true, Mag: api.Nat{0, 1, 0}})
	dens := []api.Nat{nil, {}, {0}, {0, 0, 0}}
	var list []api.Ratio
	for _, num := range nums {
		for _, den := range dens {
			list = append(list, api.Ratio{Num: num, Den: den})
		}
	}
	for _, num := range zeroInts {
		for _, den := range []api.Nat{{1}, {7}, {7, 0}, {0, 1}, {0, 6, 0, 0}} {
			list = append(list, api.Ratio{Num: num, Den: den})
		}
	}
	return list
}

// bigNat is the reference: it reads the limbs by the definition of their value.
func bigNat(a api.Nat) *big.Int {
	value := new(big.Int)
	for i := len(a) - 1; i >= 0; i-- {
		value.Lsh(value, 32).Or(value, new(big.Int).SetUint64(uint64(a[i])))
	}
	return value
}

func bigInt(a api.Int) *big.Int {
	value := bigNat(a.Mag)
	if a.Neg {
		value.Neg(value)
	}
	return value
}

// bigOf reads a ratio by the definition of its value.
func bigOf(a api.Ratio) *big.Rat {
	den := bigNat(a.Den)
	if den.Sign() == 0 {
		return new(big.Rat)
	}
	return new(big.Rat).SetFrac(bigInt(a.Num), den)
}

func natOf(value *big.Int) api.Nat {
	var a api.Nat
	for rest := new(big.Int).Set(value); rest.Sign() > 0; rest.Rsh(rest, 32) {
		a = append(a, uint32(new(big.Int).And(rest, big.NewInt(top)).Uint64()))
	}
	return a
}

func intOf(value *big.Int) api.Int {
	return api.Int{Neg: value.Sign() < 0, Mag: natOf(new(big.Int).Abs(value))}
}

// same tells whether two ratios have the same sign and the same limbs.
func same(a, b api.Ratio) bool {
	return a.Num.Neg == b.Num.Neg && slices.Equal(a.Num.Mag, b.Num.Mag) && slices.Equal(a.Den, b.Den)
}

// equal tells whether a is the value, in normal form, which is that of a
// big.Rat with the limbs of this program.
func equal(a api.Ratio, value *big.Rat) bool {
	return same(a, api.Ratio{Num: intOf(value.Num()), Den: natOf(value.Denom())})
}

// isZero tells whether a is 0/1 in normal form.
func isZero(a api.Ratio) bool {
	return !a.Num.Neg && len(a.Num.Mag) == 0 && slices.Equal(a.Den, api.Nat{1})
}

// read makes a ratio of a notation, not in lowest terms if the notation is
// not, without the functions under test.
func read(s string) api.Ratio {
	before, after, found := strings.Cut(s, "/")
	if !found {
		after = "1"
	}
	num, ok := new(big.Int).SetString(before, 10)
	den, okDen := new(big.Int).SetString(after, 10)
	if !ok || !okDen || den.Sign() < 0 {
		panic(s)
	}
	return api.Ratio{Num: intOf(num), Den: natOf(den)}
}

// prints tells whether a is, in normal form, the number with this notation,
// which is that of a number in lowest terms.
func prints(a api.Ratio, s string) bool {
	return same(a, read(s)) && equal(a, bigOf(a))
}

func randomNat(source *rand.Rand, limbs int) api.Nat {
	a := make(api.Nat, source.Intn(limbs+1))
	for i := range a {
		a[i] = source.Uint32()
		if source.Intn(2) == 0 {
			a[i] = edges[source.Intn(len(edges))]
		}
	}
	return append(a, make(api.Nat, source.Intn(4)/2)...)
}

// samples returns 0 in every form, and ratios of both signs and of up to four
// limbs a part, many of them not in lowest terms, with high zero limbs or with
// a denominator of 0 or 1; the same ones in every run.
func samples(seed int64, count int) []api.Ratio {
	source := rand.New(rand.NewSource(seed))
	list := zeros()
	for range count {
		num, den := randomNat(source, 4), randomNat(source, 4)
		switch source.Intn(4) {
		case 0:
			den = api.Nat{1 + uint32(source.Intn(12))}
		case 1:
			common := bigNat(api.Nat{edges[source.Intn(len(edges))], source.Uint32()})
			num = append(natOf(common.Mul(common, bigNat(num))), 0)
			den = append(natOf(common.Mul(bigNat(api.Nat{6, source.Uint32()}), bigNat(den))), 0)
		}
		list = append(list, api.Ratio{Num: api.Int{Neg: source.Intn(2) == 0, Mag: num}, Den: den})
	}
	return list
}

// pairs calls check with pairs of samples: each zero with everything that
// stands across from it in the list, equal and opposite numbers in other
// terms, numbers with one denominator, and mixtures.
func pairs(seed int64, count int, check func(a, b api.Ratio)) {
	as, bs := samples(seed, count), samples(seed+1000, count)
	for i, a := range as {
		b := bs[len(bs)-1-i]
		check(a, b)
		check(b, a)
		check(a, a)
		check(a, api.Ratio{Num: b.Num, Den: a.Den})
		doubled := api.Ratio{Num: intOf(new(big.Int).Lsh(bigInt(a.Num), 1)), Den: natOf(new(big.Int).Lsh(bigNat(a.Den), 1))}
		check(a, doubled)
		doubled.Num.Neg = !doubled.Num.Neg
		check(doubled, a)
	}
}

func TestP3_1Of(t *testing.T) {
	for _, c := range []struct {
		num, den int64
		want     string
	}{
		{0, 1, "0"}, {0, -5, "0"}, {0, math.MinInt64, "0"}, {1, 1, "1"}, {-1, 1, "-1"}, {1, -1, "-1"}, {-1, -1, "1"},
		{2, -4, "-1/2"}, {-2, 4, "-1/2"}, {-6, -4, "3/2"}, {6, 4, "3/2"}, {7, 1, "7"}, {7, 7, "1"}, {12, 18, "2/3"},
		{math.MinInt64, 1, "-9223372036854775808"}, {math.MinInt64, -1, "9223372036854775808"},
		{math.MinInt64, math.MinInt64, "1"}, {1, math.MinInt64, "-1/9223372036854775808"}, {-1, math.MinInt64, "1/9223372036854775808"},
		{2, math.MinInt64, "-1/4611686018427387904"}, {math.MinInt64, 6, "-4611686018427387904/3"}, {math.MinInt64, -6, "4611686018427387904/3"},
		{math.MaxInt64, math.MinInt64, "-9223372036854775807/9223372036854775808"},
		{math.MinInt64, math.MaxInt64, "-9223372036854775808/9223372036854775807"},
		{math.MaxInt64, -math.MaxInt64, "-1"}, {1 << 32, 1 << 33, "1/2"}, {-1 << 62, 3 << 60, "-4/3"},
	} {
		if got, ok := ratio.Of(c.num, c.den); !prints(got, c.want) || !ok {
			t.Errorf("Of(%d, %d): %v, %v, expected %s", c.num, c.den, got, ok, c.want)
		}
	}
	source := rand.New(rand.NewSource(1))
	for range 3000 {
		num, den := int64(source.Uint64())>>source.Intn(64), int64(source.Uint64())>>source.Intn(64)
		if den == 0 {
			den = math.MinInt64
		}
		if got, ok := ratio.Of(num, den); !equal(got, new(big.Rat).Quo(big.NewRat(num, 1), big.NewRat(den, 1))) || !ok {
			t.Fatalf("Of(%d, %d): %v, %v", num, den, got, ok)
		}
	}
	for _, num := range []int64{0, 1, -1, 5, math.MaxInt64, math.MinInt64} {
		if got, ok := ratio.Of(num, 0); !isZero(got) || ok {
			t.Errorf("Of(%d, 0): %v, %v", num, got, ok)
		}
	}
}

func TestP3_1Make(t *testing.T) {
	for _, c := range []struct{ num, den, want string }{
		{"0", "1", "0"}, {"0", "-1", "0"}, {"-6", "-4", "3/2"}, {"6", "-4", "-3/2"}, {"-6", "4", "-3/2"}, {"6", "4", "3/2"},
		{"5", "1", "5"}, {"5", "-1", "-5"}, {"-9223372036854775808", "-9223372036854775808", "1"}, {"1", "-9223372036854775808", "-1/9223372036854775808"},
		{"-340282366920938463463374607431768211456", "18446744073709551616", "-18446744073709551616"},
		{"18446744073709551616", "-340282366920938463463374607431768211456", "-1/18446744073709551616"},
		{"1000000000000000000000", "-30000000000000000000000", "-1/30"},
	} {
		num, den := read(c.num).Num, read(c.den).Num
		for range 2 {
			if got, ok := ratio.Make(num, den); !prints(got, c.want) || !ok {
				t.Errorf("Make(%v, %v): %v, %v, expected %s", num, den, got, ok, c.want)
			}
			num.Mag, den.Mag = append(num.Mag, 0), append(den.Mag, 0, 0)
		}
	}
	for _, a := range samples(2, 3000) {
		for _, neg := range []bool{false, true} {
			got, ok := ratio.Make(a.Num, api.Int{Neg: neg, Mag: a.Den})
			want := bigOf(a)
			if neg {
				want.Neg(want)
			}
			if !equal(got, want) || ok != (bigNat(a.Den).Sign() != 0) {
				t.Fatalf("Make(%v, %v %v): %v, %v", a.Num, neg, a.Den, got, ok)
			}
		}
		for _, den := range zeroInts {
			if got, ok := ratio.Make(a.Num, den); !isZero(got) || ok {
				t.Fatalf("Make(%v, %v): %v, %v", a.Num, den, got, ok)
			}
		}
	}
}

func TestP3_1Norm(t *testing.T) {
	for s, want := range map[string]string{
		"4/6": "2/3", "-4/6": "-2/3", "5/0": "0", "-5/0": "0", "0/0": "0", "0/9": "0", "5/1": "5", "6/3": "2", "2/3": "2/3", "7/7": "1", "-7/7": "-1", "1/7": "1/7",
		"18446744073709551616/4294967296": "4294967296", "4294967296/18446744073709551616": "1/4294967296",
		"340282366920938463463374607431768211455/115792089237316195423570985008687907853269984665640564039457584007913129639935": "1/340282366920938463463374607431768211457",
	} {
		a := read(s)
		for range 2 {
			if got := ratio.Norm(a); !prints(got, want) {
				t.Errorf("Norm(%v): %v, expected %s", a, got, want)
			}
			a.Num.Mag, a.Den = append(a.Num.Mag, 0, 0), append(a.Den, 0)
		}
	}
	for _, a := range zeros() {
		if got := ratio.Norm(a); !isZero(got) {
			t.Errorf("Norm of the zero %v: %v", a, got)
		}
	}
	for _, a := range samples(3, 5000) {
		if got := ratio.Norm(a); !equal(got, bigOf(a)) {
			t.Fatalf("Norm(%v): %v", a, got)
		}
	}
}

func TestP3_1FixedOrder(t *testing.T) {
	// Each number is less than the next one.
	order := []string{
		"-18446744073709551616", "-4294967297/2", "-4294967296/2", "-5/4", "-8/8", "-7/8", "-1/2", "-1/3", "-1/18446744073709551616", "0/3",
		"1/18446744073709551617", "1/18446744073709551616", "2/6", "10/20", "4294967295/4294967296", "1", "4294967297/4294967296", "3/2", "4294967296", "18446744073709551616",
	}
	for i, s := range order {
		for j, other := range order {
			want := 0
			if i < j {
				want = -1
			} else if i > j {
				want = 1
			}
			a, b := read(s), read(other)
			b.Num.Mag, b.Den = append(b.Num.Mag, 0), append(b.Den, 0, 0)
			if got := ratio.Cmp(a, b); got != want {
				t.Errorf("Cmp(%s, %s): %d, expected %d", s, other, got, want)
			}
		}
	}
}

func TestP3_1CmpAndSign(t *testing.T) {
	for _, a := range zeros() {
		if ratio.Sign(a) != 0 || ratio.Cmp(a, read("1/9")) != -1 || ratio.Cmp(a, read("-1/9")) != 1 || ratio.Cmp(read("1/9"), a) != 1 {
			t.Errorf("the zero %v has a wrong sign or order", a)
		}
		for _, b := range zeros() {
			if got := ratio.Cmp(a, b); got != 0 {
				t.Errorf("Cmp(%v, %v): %d", a, b, got)
			}
		}
	}
	pairs(4, 2000, func(a, b api.Ratio) {
		if got, want := ratio.Cmp(a, b), bigOf(a).Cmp(bigOf(b)); got != want {
			t.Fatalf("Cmp(%v, %v): %d, expected %d", a, b, got, want)
		}
		if got := ratio.Sign(a); got != bigOf(a).Sign() {
			t.Fatalf("Sign(%v): %d", a, got)
		}
	})
}

func TestP3_1FixedValues(t *testing.T) {
	for _, c := range []struct{ a, b, sum, difference, product string }{
		{"0", "0", "0", "0", "0"}, {"1/2", "0", "1/2", "1/2", "0"}, {"0", "1/2", "1/2", "-1/2", "0"},
		{"5/0", "2/3", "2/3", "-2/3", "0"}, {"2/3", "5/0", "2/3", "2/3", "0"}, {"5/0", "7/0", "0", "0", "0"},
		{"1/2", "1/3", "5/6", "1/6", "1/6"}, {"1/3", "1/2", "5/6", "-1/6", "1/6"}, {"1/6", "1/3", "1/2", "-1/6", "1/18"},
		{"1/2", "1/2", "1", "0", "1/4"}, {"-1/2", "1/2", "0", "-1", "-1/4"}, {"-1/2", "-1/2", "-1", "0", "1/4"},
		{"2/3", "3/2", "13/6", "-5/6", "1"}, {"-2/3", "3/2", "5/6", "-13/6", "-1"}, {"2/4", "3/6", "1", "0", "1/4"},
		{"7", "3", "10", "4", "21"}, {"7", "1/7", "50/7", "48/7", "1"}, {"3/10", "7/10", "1", "-2/5", "21/100"},
		{"1/4294967296", "1/4294967296", "1/2147483648", "0", "1/18446744073709551616"},
		{"4294967295/4294967296", "1/4294967296", "1", "2147483647/2147483648", "4294967295/18446744073709551616"},
	} {
		a, b := read(c.a), read(c.b)
		if got := ratio.Add(a, b); !prints(got, c.sum) {
			t.Errorf("%s + %s: %v, expected %s", c.a, c.b, got, c.sum)
		}
		if got := ratio.Sub(a, b); !prints(got, c.difference) {
			t.Errorf("%s - %s: %v, expected %s", c.a, c.b, got, c.difference)
		}
		if got := ratio.Mul(a, b); !prints(got, c.product) {
			t.Errorf("%s * %s: %v, expected %s", c.a, c.b, got, c.product)
		}
	}
}

func TestP3_1AgainstReference(t *testing.T) {
	pairs(5, 2000, func(a, b api.Ratio) {
		x, y := bigOf(a), bigOf(b)
		if got := ratio.Neg(a); !equal(got, new(big.Rat).Neg(x)) {
			t.Fatalf("Neg(%v): %v", a, got)
		}
		if got := ratio.Abs(a); !equal(got, new(big.Rat).Abs(x)) {
			t.Fatalf("Abs(%v): %v", a, got)
		}
		if got := ratio.Add(a, b); !equal(got, new(big.Rat).Add(x, y)) {
			t.Fatalf("Add(%v, %v): %v", a, b, got)
		}
		if got := ratio.Sub(a, b); !equal(got, new(big.Rat).Sub(x, y)) {
			t.Fatalf("Sub(%v, %v): %v", a, b, got)
		}
		if got := ratio.Mul(a, b); !equal(got, new(big.Rat).Mul(x, y)) {
			t.Fatalf("Mul(%v, %v): %v", a, b, got)
		}
	})
}

func TestP3_1NegAndAbs(t *testing.T) {
	for s, want := range map[string][2]string{
		"-3/4": {"3/4", "3/4"}, "3/4": {"-3/4", "3/4"}, "-6/8": {"3/4", "3/4"}, "5": {"-5", "5"}, "-5": {"5", "5"}, "0/7": {"0", "0"}, "-5/0": {"0", "0"},
	} {
		if got := ratio.Neg(read(s)); !prints(got, want[0]) {
			t.Errorf("Neg(%s): %v", s, got)
		}
		if got := ratio.Abs(read(s)); !prints(got, want[1]) {
			t.Errorf("Abs(%s): %v", s, got)
		}
	}
	for _, a := range zeros() {
		if neg, abs := ratio.Neg(a), ratio.Abs(a); !isZero(neg) || !isZero(abs) {
			t.Errorf("Neg and Abs of the zero %v: %v, %v", a, neg, abs)
		}
	}
}

func TestP3_1Div(t *testing.T) {
	for _, c := range []struct{ a, b, want string }{
		{"1/2", "-1/4", "-2"}, {"1/2", "1/4", "2"}, {"-1/2", "1/4", "-2"}, {"-1/2", "-1/4", "2"}, {"0", "-3/5", "0"}, {"5/0", "-3/5", "0"},
		{"2/3", "2/3", "1"}, {"2/3", "4/6", "1"}, {"2/3", "3/2", "4/9"}, {"1", "7", "1/7"}, {"1", "1/7", "7"}, {"6", "4", "3/2"}, {"-6", "-4", "3/2"},
		{"1/18446744073709551616", "-4294967296", "-1/79228162514264337593543950336"}, {"3/7", "-1", "-3/7"}, {"-1", "3/7", "-7/3"},
	} {
		if got, ok := ratio.Div(read(c.a), read(c.b)); !prints(got, c.want) || !ok {
			t.Errorf("%s : %s: %v, %v, expected %s", c.a, c.b, got, ok, c.want)
		}
	}
	for _, a := range append(samples(6, 20), read("1/2"), read("-3")) {
		for _, zero := range zeros() {
			if got, ok := ratio.Div(a, zero); !isZero(got) || ok {
				t.Fatalf("%v : %v: %v, %v", a, zero, got, ok)
			}
		}
	}
	pairs(7, 2000, func(a, b api.Ratio) {
		divisor := bigOf(b)
		if divisor.Sign() == 0 {
			return
		}
		if got, ok := ratio.Div(a, b); !equal(got, new(big.Rat).Quo(bigOf(a), divisor)) || !ok {
			t.Fatalf("%v : %v: %v, %v", a, b, got, ok)
		}
	})
}

func TestP3_1Sum(t *testing.T) {
	if none, empty := ratio.Sum(nil), ratio.Sum([]api.Ratio{}); !isZero(none) || !isZero(empty) {
		t.Error("the sum of no ratios", none, empty)
	}
	if got := ratio.Sum(zeros()); !isZero(got) {
		t.Error("the sum of zeros", got)
	}
	for _, c := range []struct{ list, want string }{
		{"1/2 1/3 1/6", "1"}, {"4/6", "2/3"}, {"-4/6", "-2/3"}, {"5/0", "0"}, {"1/2 5/0 1/2", "1"}, {"5/0 1/2", "1/2"}, {"1/2 -1/2", "0"},
		{"1 2 3 4", "10"}, {"1/2 -1/3 -1/6 7", "7"}, {"1/1000 999/1000", "1"}, {"4294967295 1 1/4294967296", "18446744073709551617/4294967296"},
	} {
		var list []api.Ratio
		for _, s := range strings.Fields(c.list) {
			list = append(list, read(s))
		}
		if got := ratio.Sum(list); !prints(got, c.want) {
			t.Errorf("the sum of %s: %v, expected %s", c.list, got, c.want)
		}
	}
	numbers := samples(8, 600)
	for i := range numbers {
		list, want := numbers[i:min(i+i%9, len(numbers))], new(big.Rat)
		for _, a := range list {
			want.Add(want, bigOf(a))
		}
		if got := ratio.Sum(list); !equal(got, want) {
			t.Fatalf("Sum(%v): %v", list, got)
		}
	}
}

func TestP3_2Field(t *testing.T) {
	add, mul, zero, one := ratio.Add, ratio.Mul, read("0"), read("1")
	third := samples(9, 500)
	i := 0
	pairs(10, 600, func(a, b api.Ratio) {
		i++
		c := third[i%len(third)]
		for _, law := range []struct {
			name        string
			left, right api.Ratio
		}{
			{"a + b = b + a", add(a, b), add(b, a)},
			{"a b = b a", mul(a, b), mul(b, a)},
			{"(a + b) + c = a + (b + c)", add(add(a, b), c), add(a, add(b, c))},
			{"(a b) c = a (b c)", mul(mul(a, b), c), mul(a, mul(b, c))},
			{"a (b + c) = a b + a c", mul(a, add(b, c)), add(mul(a, b), mul(a, c))},
			{"a + 0 = a", add(a, zero), ratio.Norm(a)},
			{"a 1 = a", mul(a, one), ratio.Norm(a)},
			{"a 0 = 0", mul(a, zero), zero},
			{"a + -a = 0", add(a, ratio.Neg(a)), zero},
			{"(a + b) - b = a", ratio.Sub(add(a, b), b), ratio.Norm(a)},
			{"(a - b) + b = a", add(ratio.Sub(a, b), b), ratio.Norm(a)},
			{"the sum of a, b, c = a + b + c", ratio.Sum([]api.Ratio{a, b, c}), add(add(a, b), c)},
		} {
			if !same(law.left, law.right) {
				t.Fatalf("%s: %v, %v, %v: %v, %v", law.name, a, b, c, law.left, law.right)
			}
		}
		product, _ := ratio.Div(mul(a, b), b)
		quotient, ok := ratio.Div(a, b)
		if ok != (ratio.Sign(b) != 0) || ok && (!same(product, ratio.Norm(a)) || !same(mul(quotient, b), ratio.Norm(a))) {
			t.Fatalf("Div does not invert Mul: %v, %v: %v, %v, %v", a, b, product, quotient, ok)
		}
	})
}

func TestP3_3Order(t *testing.T) {
	third := samples(11, 500)
	i := 0
	pairs(12, 1500, func(a, b api.Ratio) {
		i++
		c := third[i%len(third)]
		order := ratio.Cmp(a, b)
		if order != -ratio.Cmp(b, a) || (order == 0) != same(ratio.Norm(a), ratio.Norm(b)) || order != ratio.Sign(ratio.Sub(a, b)) {
			t.Fatalf("Cmp(%v, %v): %d, the other way %d", a, b, order, ratio.Cmp(b, a))
		}
		if order <= 0 && ratio.Cmp(b, c) <= 0 && ratio.Cmp(a, c) > 0 {
			t.Fatalf("not transitive: %v, %v, %v", a, b, c)
		}
		if got := ratio.Cmp(ratio.Add(a, c), ratio.Add(b, c)); got != order {
			t.Fatalf("%v added to %v and %v: %d, expected %d", c, a, b, got, order)
		}
		if got := ratio.Cmp(ratio.Mul(a, c), ratio.Mul(b, c)); got != order*ratio.Sign(c) {
			t.Fatalf("%v times %v and %v: %d, before %d", c, a, b, got, order)
		}
	})
}

func TestP3_4FixedValues(t *testing.T) {
	for s, want := range map[string]string{
		"7/2": "3", "-7/2": "-4", "-4/2": "-2", "4/2": "2", "0/3": "0", "1/9": "0", "-1/9": "-1", "8/9": "0", "-8/9": "-1", "9/9": "1", "-9/9": "-1",
		"10/9": "1", "-10/9": "-2", "5/0": "0", "-5/0": "0", "5": "5", "-5": "-5", "-14/4": "-4", "-1/18446744073709551616": "-1",
		"18446744073709551615/18446744073709551616": "0", "-8589934591/2": "-4294967296", "-8589934592/2": "-4294967296", "-8589934593/2": "-4294967297",
		"-79228162514264337593543950336/18446744073709551616": "-4294967296", "18446744073709551616/4294967296": "4294967296",
	} {
		a := read(s)
		for range 2 {
			if got := ratio.Floor(a); !prints(api.Ratio{Num: got, Den: api.Nat{1}}, want) {
				t.Errorf("Floor(%v): %v, expected %s", a, got, want)
			}
			a.Num.Mag, a.Den = append(a.Num.Mag, 0), append(a.Den, 0, 0)
		}
	}
	for _, a := range zeros() {
		if got := ratio.Floor(a); got.Neg || len(got.Mag) != 0 {
			t.Errorf("Floor of the zero %v: %v", a, got)
		}
	}
}

func TestP3_4Floor(t *testing.T) {
	pairs(13, 1000, func(a, _ api.Ratio) {
		floor := api.Ratio{Num: ratio.Floor(a), Den: api.Nat{1}}
		if !same(floor, ratio.Norm(floor)) {
			t.Fatalf("Floor(%v) is not in normal form: %v", a, floor.Num)
		}
		if ratio.Cmp(floor, a) > 0 || ratio.Cmp(a, ratio.Add(floor, read("1"))) >= 0 {
			t.Fatalf("Floor(%v): %v", a, floor.Num)
		}
		// Euclidean division by a positive number is floored division.
		x := bigOf(a)
		if want := new(big.Int).Div(x.Num(), x.Denom()); bigInt(floor.Num).Cmp(want) != 0 {
			t.Fatalf("Floor(%v): %v, expected %v", a, floor.Num, want)
		}
	})
}

func TestP3_1Parse(t *testing.T) {
	for s, want := range map[string]string{
		"0": "0", "7": "7", "-7": "-7", "12/18": "2/3", "-12/18": "-2/3", "3/6": "1/2", "0/5": "0", "0/1": "0", "5/1": "5", "-5/5": "-1", "10/100": "1/10",
		"-9223372036854775808/18446744073709551616": "-1/2", "1/18446744073709551616": "1/18446744073709551616",
	} {
		if got, e := ratio.Parse(s); !prints(got, want) || e != api.OK {
			t.Errorf("Parse(%q): %v, %d, expected %s", s, got, e, want)
		}
	}
	for _, s := range []string{
		"", "-", "+", "/", "//", "1/", "/1", "/0", "-/2", "1/2/3", "1//2", "1/2/", "/1/2", "0/0", "1/0", "-1/0", "1/00", "1/02", "01/2", "007", "-07", "00", "-0", "-0/3", "+1", "+1/2",
		"1/-2", "-1/-2", "1/+2", "1/-0", "1/-", "1/+", "--1/2", "-+1/2", " 1", "1 ", "1/2 ", "1 /2", "1/ 2", "-1/2\n", "1/2\x00", "1\xff/2", "1.5", "1/2.0", "1e3", "1/1e3", "0x1/2", "1_0/2",
		"1/1_0", "1\\2", "1:2", "1\u22152", "\u22121/2", "\u0661/2", "1/\u0662", "a", "a/b", "1/b",
	} {
		if got, e := ratio.Parse(s); !isZero(got) || e != api.ErrSyntax {
			t.Errorf("Parse(%q): %v, %d", s, got, e)
		}
	}
}

func TestP3_1ParseLengthsAndOrderOfErrors(t *testing.T) {
	whole := strings.Repeat("9", api.MaxDigits)
	long := whole + "9"
	for _, c := range []struct {
		s    string
		want api.Errno
	}{
		{whole, api.OK}, {"-" + whole, api.OK}, {whole + "/7", api.OK}, {"-7/" + whole, api.OK}, {whole + "/" + whole, api.OK}, {"-" + whole + "/8" + whole[1:], api.OK},
		{long, api.ErrTooLong}, {"-" + long, api.ErrTooLong}, {long + "/7", api.ErrTooLong}, {"-" + long + "/7", api.ErrTooLong}, {"7/" + long, api.ErrTooLong},
		{"-7/" + long, api.ErrTooLong}, {long + "/" + long, api.ErrTooLong}, {"1" + strings.Repeat("0", api.MaxDigits), api.ErrTooLong},
		// The numerator comes first, whatever the denominator is.
		{long + "/x", api.ErrTooLong}, {long + "/", api.ErrTooLong}, {long + "/0", api.ErrTooLong}, {long + "/-2", api.ErrTooLong}, {long + "/2/3", api.ErrTooLong},
		{"x/" + long, api.ErrSyntax}, {"/" + long, api.ErrSyntax}, {"-0/" + long, api.ErrSyntax}, {"01/" + long, api.ErrSyntax}, {"+1/" + long, api.ErrSyntax},
		// Within a part, a wrong byte or a leading zero comes before the length.
		{long + "x/2", api.ErrSyntax}, {"0" + long, api.ErrSyntax}, {"1/0" + long, api.ErrSyntax}, {"1/-" + long, api.ErrSyntax}, {"1/" + long + "/2", api.ErrSyntax}, {"1/" + long + "-", api.ErrSyntax},
	} {
		got, e := ratio.Parse(c.s)
		if e != c.want || e != api.OK && !isZero(got) || e == api.OK && !equal(got, bigOf(read(c.s))) {
			t.Errorf("Parse(%.10q ... %q): %v, %d, expected %d", c.s, c.s[max(0, len(c.s)-5):], got, e, c.want)
		}
	}
}

func TestP3_1Print(t *testing.T) {
	for s, want := range map[string]string{
		"4/6": "2/3", "-4/8": "-1/2", "5": "5", "-5": "-5", "6/3": "2", "-6/3": "-2", "0": "0", "0/7": "0", "5/0": "0", "-5/0": "0", "1/7": "1/7",
		"4294967296/18446744073709551616": "1/4294967296", "-18446744073709551616/3": "-18446744073709551616/3", "3/4294967296": "3/4294967296", "4294967297/4294967296": "4294967297/4294967296",
		"1" + strings.Repeat("0", 1000) + "/3": "1" + strings.Repeat("0", 1000) + "/3", "-7/1" + strings.Repeat("0", 1000): "-7/1" + strings.Repeat("0", 1000),
	} {
		if got := ratio.Print(read(s)); got != want {
			t.Errorf("Print of %.30s: %.30q, expected %.30s", s, got, want)
		}
	}
	for _, a := range zeros() {
		if got := ratio.Print(a); got != "0" {
			t.Errorf("Print(%v): %q", a, got)
		}
	}
	for _, a := range samples(14, 3000) {
		if got, want := ratio.Print(a), bigOf(a).RatString(); got != want {
			t.Fatalf("Print(%v): %s, expected %s", a, got, want)
		}
	}
}

func TestP3_5Notation(t *testing.T) {
	for _, a := range samples(15, 3000) {
		if back, e := ratio.Parse(ratio.Print(a)); e != api.OK || !same(back, ratio.Norm(a)) {
			t.Fatalf("Parse of Print(%v): %v, %d", a, back, e)
		}
	}
	for length := 1; length <= api.MaxDigits; length++ {
		nines, round := strings.Repeat("9", length), "1"+strings.Repeat("0", length-1)
		// 9 and 10 have no common divisor, so that these are in lowest terms.
		for _, s := range []string{nines, "-" + round, "1/" + nines, "-" + nines + "/10", nines + "/" + round + "0"[:min(1, api.MaxDigits-length)], "-" + nines + "/" + nines[:length-1] + "8"} {
			a := ratio.Norm(read(s))
			if back, e := ratio.Parse(ratio.Print(a)); e != api.OK || !same(back, a) || !equal(back, bigOf(read(s))) {
				t.Fatalf("Parse of Print of %s: %v, %d", s, back, e)
			}
		}
	}
	// Not in lowest terms these have too many digits, in lowest terms they don't.
	noughts := strings.Repeat("0", api.MaxDigits)
	for _, s := range []string{"3" + noughts + "/7" + noughts, "-3" + noughts + "/3" + noughts} {
		if back, e := ratio.Parse(ratio.Print(read(s))); e != api.OK || !equal(back, bigOf(read(s))) {
			t.Errorf("Parse of Print of %.9s...: %v, %d", s, back, e)
		}
	}
	for _, s := range []string{"1" + noughts, "-1" + noughts + "/7", "1/1" + noughts} {
		if back, e := ratio.Parse(ratio.Print(read(s))); e != api.ErrTooLong || !isZero(back) {
			t.Errorf("Parse of Print of %.9s...: %v, %d", s, back, e)
		}
	}
}

// results returns every number that the functions return for the two.
func results(a, b api.Ratio) []api.Ratio {
	quotient, _ := ratio.Div(a, b)
	made, _ := ratio.Make(a.Num, b.Num)
	return []api.Ratio{
		ratio.Norm(a), ratio.Neg(a), ratio.Abs(a), ratio.Add(a, b), ratio.Add(b, a), ratio.Sub(a, b), ratio.Sub(b, a), ratio.Mul(a, b),
		quotient, made, ratio.Sum([]api.Ratio{a}), ratio.Sum([]api.Ratio{a, b}), {Num: ratio.Floor(a)},
	}
}

// all writes down what every function answers for the two numbers; Make is
// left out, since its arguments are no ratios.
func all(a, b api.Ratio) string {
	_, divided := ratio.Div(a, b)
	text := fmt.Sprintln(ratio.Cmp(a, b), ratio.Sign(a), divided, ratio.Print(a))
	for i, result := range results(a, b) {
		if i != 9 {
			text += fmt.Sprintln(result.Num.Neg, result.Num.Mag, result.Den)
		}
	}
	return text
}

func TestEveryFormCountsAsItsNumber(t *testing.T) {
	forms := func(a api.Ratio) []api.Ratio {
		triple := func(n api.Nat) api.Nat { return natOf(new(big.Int).Mul(bigNat(n), big.NewInt(3))) }
		high := func(n api.Nat) api.Nat { return append(slices.Clone(n), 0, 0) }
		list := []api.Ratio{
			a,
			{Num: api.Int{Neg: a.Num.Neg, Mag: high(a.Num.Mag)}, Den: a.Den},
			{Num: a.Num, Den: high(a.Den)},
			{Num: api.Int{Neg: a.Num.Neg, Mag: triple(a.Num.Mag)}, Den: triple(a.Den)},
			{Num: api.Int{Neg: a.Num.Neg, Mag: high(triple(a.Num.Mag))}, Den: high(triple(a.Den))},
		}
		if len(a.Num.Mag) == 0 {
			list = append(list, zeros()...)
		}
		return list
	}
	numbers := []string{"0", "1", "-1", "2", "1/2", "-7/3", "-1/4294967296", "18446744073709551616/7", "-9223372036854775808"}
	for _, s := range numbers {
		for _, other := range numbers {
			want := all(read(s), read(other))
			for _, a := range forms(read(s)) {
				for _, b := range forms(read(other)) {
					if got := all(a, b); got != want {
						t.Fatalf("%v, %v: %s, expected %s", a, b, got, want)
					}
				}
			}
		}
	}
}

// overwrite changes all the memory of a natural number, its spare capacity too.
func overwrite(a api.Nat) {
	for i := range a[:cap(a)] {
		a[:cap(a)][i] = 0xdeadbeef
	}
}

// some returns numbers of all kinds, in all kinds of forms.
func some() []api.Ratio {
	var list []api.Ratio
	for _, mag := range []api.Nat{nil, {0}, {1}, {2}, {6, 0}, {0, 6}, {top, top, top, 0}} {
		for _, den := range []api.Nat{nil, {0}, {1}, {1, 0}, {2}, {3}, {0, 4, 0}, {top, top, top}} {
			list = append(list, api.Ratio{Num: api.Int{Mag: mag}, Den: den}, api.Ratio{Num: api.Int{Neg: true, Mag: mag}, Den: den})
		}
	}
	return list
}

func TestP2ArgumentsAndResultsAreApart(t *testing.T) {
	// The arguments are parts of longer slices, whose rest must not change either.
	part := func(n api.Nat) api.Nat { return append(slices.Clone(n), 77, 78)[:len(n)] }
	parts := func(x api.Ratio) api.Ratio {
		return api.Ratio{Num: api.Int{Neg: x.Num.Neg, Mag: part(x.Num.Mag)}, Den: part(x.Den)}
	}
	rest := func(n api.Nat) bool { return slices.Equal(n[len(n):len(n)+2], []uint32{77, 78}) }
	kept := func(a, x api.Ratio) bool { return same(a, x) && rest(a.Num.Mag) && rest(a.Den) }
	for _, x := range some() {
		for _, y := range some() {
			a, b := parts(x), parts(y)
			list, want := results(a, b), results(x, y)
			all(a, b)
			if !kept(a, x) || !kept(b, y) {
				t.Fatalf("an argument was modified: %v, %v", x, y)
			}
			for _, memory := range []api.Nat{a.Num.Mag, a.Den, b.Num.Mag, b.Den} {
				overwrite(memory)
			}
			for i, result := range list {
				if !same(result, want[i]) {
					t.Fatalf("result %d for %v, %v shares memory with an argument or a result", i, x, y)
				}
				overwrite(result.Num.Mag)
				if !slices.Equal(result.Den, want[i].Den) {
					t.Fatalf("numerator and denominator of result %d for %v, %v share memory", i, x, y)
				}
				overwrite(result.Den)
			}
		}
	}
}

func TestP2ResultsBesideAFailureAreNew(t *testing.T) {
	makers := map[string]func() api.Ratio{
		"Of":             func() api.Ratio { a, _ := ratio.Of(3, 4); return a },
		"Of with 0":      func() api.Ratio { a, _ := ratio.Of(3, 0); return a },
		"Make with 0":    func() api.Ratio { a, _ := ratio.Make(api.Int{Mag: api.Nat{3}}, api.Int{}); return a },
		"Div by 0":       func() api.Ratio { a, _ := ratio.Div(read("1/2"), read("0")); return a },
		"Sum of nothing": func() api.Ratio { return ratio.Sum(nil) },
		"Norm of 0":      func() api.Ratio { return ratio.Norm(api.Ratio{}) },
		"Parse":          func() api.Ratio { a, _ := ratio.Parse("-3/4"); return a },
		"Parse of 5":     func() api.Ratio { a, _ := ratio.Parse("5"); return a },
		"Parse of 1/0":   func() api.Ratio { a, _ := ratio.Parse("1/0"); return a },
		"Parse of x":     func() api.Ratio { a, _ := ratio.Parse("x"); return a },
	}
	for name, maker := range makers {
		first := maker()
		want := api.Ratio{Num: api.Int{Neg: first.Num.Neg, Mag: slices.Clone(first.Num.Mag)}, Den: slices.Clone(first.Den)}
		overwrite(first.Num.Mag)
		overwrite(first.Den)
		if again := maker(); !same(again, want) {
			t.Errorf("two results of %s share memory: %v, %v", name, again, want)
		}
	}
}

func TestP2SumKeepsItsList(t *testing.T) {
	list := []api.Ratio{read("4/6"), read("5/0"), {}, read("1/3"), read("77")}
	if got := ratio.Sum(list[:4]); !prints(got, "1") {
		t.Error("the sum of 4/6, 5/0, nothing, 1/3", got)
	}
	for i, want := range []api.Ratio{read("4/6"), read("5/0"), {}, read("1/3"), read("77")} {
		if !same(list[i], want) {
			t.Errorf("Sum changed element %d to %v", i, list[i])
		}
	}
}

func TestExamplesOfTheChapter(t *testing.T) {
	for name, c := range map[string]struct {
		got  api.Ratio
		want string
	}{
		"1/2 + 1/3":          {ratio.Add(read("1/2"), read("1/3")), "5/6"},
		"1/2 - 1/2":          {ratio.Sub(read("1/2"), read("1/2")), "0"},
		"2/3 * 3/2":          {ratio.Mul(read("2/3"), read("3/2")), "1"},
		"Sum(1/2, 1/3, 1/6)": {ratio.Sum([]api.Ratio{read("1/2"), read("1/3"), read("1/6")}), "1"},
		"Abs(-3/4)":          {ratio.Abs(read("-3/4")), "3/4"},
		"Floor(7/2)":         {api.Ratio{Num: ratio.Floor(read("7/2")), Den: api.Nat{1}}, "3"},
		"Floor(-7/2)":        {api.Ratio{Num: ratio.Floor(read("-7/2")), Den: api.Nat{1}}, "-4"},
		"Floor(-4/2)":        {api.Ratio{Num: ratio.Floor(read("-4/2")), Den: api.Nat{1}}, "-2"},
	} {
		if !prints(c.got, c.want) {
			t.Errorf("%s: %v, expected %s", name, c.got, c.want)
		}
	}
	if ratio.Cmp(read("-1/2"), read("-1/3")) != -1 || ratio.Cmp(read("5/0"), read("0/1")) != 0 || ratio.Cmp(read("1/2"), read("2/4")) != 0 {
		t.Error("Cmp")
	}
	if got, e := ratio.Parse("007"); !isZero(got) || e != api.ErrSyntax {
		t.Error("Parse of 007", got, e)
	}
	if got, e := ratio.Parse("3/6"); !prints(got, "1/2") || e != api.OK {
		t.Error("Parse of 3/6", got, e)
	}
	if made, _ := ratio.Of(4, -8); ratio.Print(made) != "-1/2" || ratio.Print(api.Ratio{}) != "0" {
		t.Error("Print", made)
	}
}

func FuzzAgainstReference(f *testing.F) {
	f.Add(true, []byte{6}, []byte{4}, false, []byte{1, 2, 3, 4, 5}, []byte{9})
	f.Add(false, []byte{}, []byte{0}, true, []byte{0, 0}, []byte{0, 0, 0, 0, 0, 7})
	f.Fuzz(func(t *testing.T, negA bool, numA, denA []byte, negB bool, numB, denB []byte) {
		limbs := func(p []byte) api.Nat {
			return append(natOf(new(big.Int).SetBytes(p)), make(api.Nat, len(p)%3)...)
		}
		a := api.Ratio{Num: api.Int{Neg: negA, Mag: limbs(numA)}, Den: limbs(denA)}
		b := api.Ratio{Num: api.Int{Neg: negB, Mag: limbs(numB)}, Den: limbs(denB)}
		x, y := bigOf(a), bigOf(b)
		if !equal(ratio.Add(a, b), new(big.Rat).Add(x, y)) || !equal(ratio.Sub(a, b), new(big.Rat).Sub(x, y)) || !equal(ratio.Mul(a, b), new(big.Rat).Mul(x, y)) {
			t.Fatal("Add, Sub or Mul", a, b)
		}
		if ratio.Cmp(a, b) != x.Cmp(y) || ratio.Sign(a) != x.Sign() || ratio.Print(a) != x.RatString() {
			t.Fatal("Cmp, Sign or Print", a, b)
		}
		if got := bigInt(ratio.Floor(a)); got.Cmp(new(big.Int).Div(x.Num(), x.Denom())) != 0 {
			t.Fatal("Floor", a, got)
		}
		quotient, ok := ratio.Div(a, b)
		if ok != (y.Sign() != 0) || !ok && !isZero(quotient) || ok && !equal(quotient, new(big.Rat).Quo(x, y)) {
			t.Fatal("Div", a, b, quotient, ok)
		}
	})
}
