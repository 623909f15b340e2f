package span_test

import (
	"math"
	"math/big"
	"math/rand"
	"slices"
	"strings"
	"testing"

	"examboard/api"
	"examboard/span"
)

const (
	top = math.MaxUint32
	// big64 is 2^64, a number of three limbs; those near 0 and 1 are 1/2^64 away from them.
	big64        = "18446744073709551616"
	justAbove0   = "1/18446744073709551616"
	justBelow0   = "-1/18446744073709551616"
	justAbove1   = "18446744073709551617/18446744073709551616"
	justBelow1   = "18446744073709551615/18446744073709551616"
	hugeNumber   = "340282366920938463463374607431768211456"
	hugeNegative = "-340282366920938463463374607431768211457/3"
)

// bigNat is the reference: it reads the limbs by the definition of their value.
func bigNat(a api.Nat) *big.Int {
	value := new(big.Int)
	for i := len(a) - 1; i >= 0; i-- {
		value.Lsh(value, 32).Or(value, new(big.Int).SetUint64(uint64(a[i])))
	}
	return value
}

// bigOf reads a ratio by the definition of its value.
func bigOf(a api.Ratio) *big.Rat {
	num, den := bigNat(a.Num.Mag), bigNat(a.Den)
	if den.Sign() == 0 {
		return new(big.Rat)
	}
	if a.Num.Neg {
		num.Neg(num)
	}
	return new(big.Rat).SetFrac(num, den)
}

// inOrder exchanges the ends if Lo is above Hi, and leaves their forms.
func inOrder(a api.Span) api.Span {
	if bigOf(a.Lo).Cmp(bigOf(a.Hi)) > 0 {
		a.Lo, a.Hi = a.Hi, a.Lo
	}
	return a
}

// ends reads an interval by the definition of its ends.
func ends(a api.Span) (*big.Rat, *big.Rat) {
	a = inOrder(a)
	return bigOf(a.Lo), bigOf(a.Hi)
}

func natOf(value *big.Int) api.Nat {
	var a api.Nat
	for rest := new(big.Int).Set(value); rest.Sign() > 0; rest.Rsh(rest, 32) {
		a = append(a, uint32(new(big.Int).And(rest, big.NewInt(top)).Uint64()))
	}
	return a
}

// ratioOf makes a ratio of a numerator and a denominator, as they are.
func ratioOf(num, den *big.Int) api.Ratio {
	return api.Ratio{Num: api.Int{Neg: num.Sign() < 0, Mag: natOf(new(big.Int).Abs(num))}, Den: natOf(den)}
}

// normal returns the normal form of a number.
func normal(x *big.Rat) api.Ratio { return ratioOf(x.Num(), x.Denom()) }

// read makes a ratio of a notation, not in lowest terms if the notation is not.
func read(s string) api.Ratio {
	before, after, found := strings.Cut(s, "/")
	if !found {
		after = "1"
	}
	num, ok := new(big.Int).SetString(before, 10)
	den, okDen := new(big.Int).SetString(after, 10)
	if !ok || !okDen || den.Sign() < 0 {
		panic(s)
	}
	return ratioOf(num, den)
}

// readSpan makes an interval of the notations of Lo and Hi, in this order.
func readSpan(s string) api.Span {
	lo, hi, found := strings.Cut(s, " ")
	if !found {
		panic(s)
	}
	return api.Span{Lo: read(lo), Hi: read(hi)}
}

func same(a, b api.Ratio) bool {
	return a.Num.Neg == b.Num.Neg && slices.Equal(a.Num.Mag, b.Num.Mag) && slices.Equal(a.Den, b.Den)
}

func sameSpan(a, b api.Span) bool { return same(a.Lo, b.Lo) && same(a.Hi, b.Hi) }

// equal tells whether a is the interval with these ends, in normal form.
func equal(a api.Span, lo, hi *big.Rat) bool {
	return same(a.Lo, normal(lo)) && same(a.Hi, normal(hi))
}

// is tells whether a is, in normal form, the interval with this notation.
func is(a api.Span, s string) bool {
	want := readSpan(s)
	return equal(a, bigOf(want.Lo), bigOf(want.Hi))
}

// isNumber tells whether a is, in normal form, the number with this notation.
func isNumber(a api.Ratio, s string) bool { return same(a, normal(bigOf(read(s)))) }

// isNothing tells whether a is the zero value; nil and empty are the same.
func isNothing(a api.Span) bool { return sameSpan(a, api.Span{}) }

func high(n api.Nat) api.Nat { return append(slices.Clone(n), 0, 0) }

// forms returns the same number in other forms: not in lowest terms, with high
// zero limbs, and both; 0 also with a minus sign and with a denominator of 0.
func forms(a api.Ratio) []api.Ratio {
	three := big.NewInt(3)
	num, den := bigNat(a.Num.Mag), bigNat(a.Den)
	tripled := api.Ratio{Num: api.Int{Neg: a.Num.Neg, Mag: natOf(num.Mul(num, three))}, Den: natOf(den.Mul(den, three))}
	list := []api.Ratio{
		a, tripled,
		{Num: api.Int{Neg: a.Num.Neg, Mag: high(a.Num.Mag)}, Den: a.Den},
		{Num: a.Num, Den: high(a.Den)},
		{Num: api.Int{Neg: tripled.Num.Neg, Mag: high(tripled.Num.Mag)}, Den: high(tripled.Den)},
	}
	if bigOf(a).Sign() != 0 {
		return list
	}
	for _, mag := range []api.Nat{nil, {0}, {5}, {0, 0, 1}} {
		for _, den := range []api.Nat{nil, {0}, {0, 0}} {
			list = append(list, api.Ratio{Num: api.Int{Mag: mag}, Den: den}, api.Ratio{Num: api.Int{Neg: true, Mag: mag}, Den: den})
		}
	}
	return append(list, api.Ratio{Num: api.Int{Neg: true}, Den: api.Nat{1}}, api.Ratio{Num: api.Int{Neg: true, Mag: api.Nat{0}}, Den: api.Nat{7, 0}})
}

// spanForms returns the same interval with its ends in other forms and in
// either order.
func spanForms(a api.Span) []api.Span {
	lo, hi := forms(a.Lo), forms(a.Hi)
	var list []api.Span
	for i := range max(len(lo), len(hi)) {
		x, y := lo[i%len(lo)], hi[(2*i+1)%len(hi)]
		list = append(list, api.Span{Lo: x, Hi: y}, api.Span{Lo: y, Hi: x})
	}
	return list
}

// numbers are below 0, 0, and above 0, of one and of more limbs.
var numbers = []string{"0", "1", "-1", "1/2", "-2/3", "2", "-5", justAbove0, "-" + big64, hugeNumber, hugeNegative}

// few are some of them, for triples of intervals.
var few = []string{"-2", "-2/3", "0", "1/2", big64}

// intervals returns all intervals with two of these ends, in either order and
// in changing forms.
func intervals(list []string) []api.Span {
	var all []api.Span
	for i, x := range list {
		for j, y := range list {
			a := spanForms(api.Span{Lo: read(x), Hi: read(y)})
			all = append(all, a[2*(3*i+5*j)%len(a)])
		}
	}
	return all
}

// random returns intervals with ends of up to four limbs a part, in any form;
// the same ones in every run.
func random(seed int64, count int) []api.Span {
	source := rand.New(rand.NewSource(seed))
	limbs := func(length int) api.Nat {
		a := make(api.Nat, length)
		for i := range a {
			a[i] = []uint32{0, 1, 6, top, source.Uint32(), source.Uint32() >> source.Intn(32)}[source.Intn(6)]
		}
		return append(a, make(api.Nat, source.Intn(4)/2)...)
	}
	end := func() api.Ratio {
		return api.Ratio{Num: api.Int{Neg: source.Intn(2) == 0, Mag: limbs(source.Intn(5))}, Den: limbs(source.Intn(5))}
	}
	var list []api.Span
	for range count {
		a := api.Span{Lo: end(), Hi: end()}
		if source.Intn(8) == 0 {
			a.Hi = a.Lo
		}
		list = append(list, a)
	}
	return list
}

// pairs calls check with many pairs of intervals, in both orders of the two.
func pairs(seed int64, check func(a, b api.Span)) {
	list := intervals(numbers)
	for _, a := range list {
		for _, b := range list {
			check(a, b)
		}
	}
	list = random(seed, 1000)
	for i, a := range list {
		check(a, list[(i+1)%len(list)])
		check(a, a)
	}
}

// fewPairs calls check with fewer pairs of intervals, for tests that look at
// many numbers of each.
func fewPairs(seed int64, check func(a, b api.Span)) {
	for _, a := range intervals(few) {
		for _, b := range intervals(numbers) {
			check(a, b)
			check(b, a)
		}
	}
	list := random(seed, 300)
	for i, a := range list[1:] {
		check(a, list[i])
	}
}

// middle returns the number that lies so far from the lower end to the upper one.
func middle(a api.Span, part *big.Rat) *big.Rat {
	lo, hi := ends(a)
	way := new(big.Rat).Sub(hi, lo)
	return way.Mul(way, part).Add(way, lo)
}

// members returns both ends of an interval and numbers between them.
func members(a api.Span) []*big.Rat {
	return []*big.Rat{middle(a, big.NewRat(0, 1)), middle(a, big.NewRat(1, 5)), middle(a, big.NewRat(999, 1000)), middle(a, big.NewRat(1, 1))}
}

// outsiders returns numbers that lie below and above an interval, near to it and far away.
func outsiders(a api.Span) []*big.Rat {
	lo, hi := ends(a)
	var list []*big.Rat
	for _, s := range []string{justAbove0, "1", hugeNumber} {
		list = append(list, new(big.Rat).Sub(lo, bigOf(read(s))), new(big.Rat).Add(hi, bigOf(read(s))))
	}
	return list
}

func lies(x *big.Rat, a api.Span) bool {
	lo, hi := ends(a)
	return lo.Cmp(x) <= 0 && x.Cmp(hi) <= 0
}

func TestP5_1Of(t *testing.T) {
	for _, c := range []struct{ a, b, want string }{
		{"1/2", "-1/3", "-1/3 1/2"}, {"-1/3", "1/2", "-1/3 1/2"}, {"1", "2", "1 2"}, {"2", "1", "1 2"}, {"-2", "-1", "-2 -1"}, {"-1", "-2", "-2 -1"},
		{"0", "0", "0 0"}, {"5/0", "0", "0 0"}, {"-5/0", "5/0", "0 0"}, {"5/0", "1/2", "0 1/2"}, {"-5/0", "-1/2", "-1/2 0"}, {"3/0", "1", "0 1"}, {"-1", "-3/0", "-1 0"},
		{"7", "7", "7 7"}, {"-7", "-7", "-7 -7"}, {"2/4", "3/6", "1/2 1/2"}, {"4/6", "-6/4", "-3/2 2/3"}, {"10/5", "9/3", "2 3"}, {"0/7", "5", "0 5"},
		{big64, "-" + big64, "-" + big64 + " " + big64}, {"18446744073709551617", big64, big64 + " 18446744073709551617"}, {justAbove0, "0", "0 " + justAbove0}, {"0", justBelow0, justBelow0 + " 0"},
		{justAbove1, justBelow1, justBelow1 + " " + justAbove1}, {"36893488147419103232/4", "-4294967296/18446744073709551616", "-1/4294967296 9223372036854775808"},
	} {
		for _, a := range forms(read(c.a)) {
			for _, b := range forms(read(c.b)) {
				if got := span.Of(a, b); !is(got, c.want) {
					t.Errorf("Of(%v, %v): %v, expected %s", a, b, got, c.want)
				}
			}
		}
	}
	if got := span.Of(api.Ratio{}, api.Ratio{}); !is(got, "0 0") || !slices.Equal(got.Lo.Den, api.Nat{1}) || !slices.Equal(got.Hi.Den, api.Nat{1}) {
		t.Errorf("Of two zero values: %v", got)
	}
}

func TestP5_1OfAgainstReference(t *testing.T) {
	for _, a := range append(intervals(numbers), random(1, 2000)...) {
		lo, hi := ends(a)
		if got, back := span.Of(a.Lo, a.Hi), span.Of(a.Hi, a.Lo); !equal(got, lo, hi) || !sameSpan(got, back) {
			t.Fatalf("Of(%v, %v): %v, in the other order %v", a.Lo, a.Hi, got, back)
		}
	}
}

// operations are two intervals, their sum, their difference and their product.
var operations = []struct{ a, b, add, sub, mul string }{
	// Wholly below 0, wholly above 0, and around 0; each end is in turn that of the smallest and of the greatest product.
	{"1 2", "-1 5", "0 7", "-4 3", "-2 10"},
	{"-1 2", "-3 4", "-4 6", "-5 5", "-6 8"},
	{"-3 -2", "-1 -1/2", "-4 -5/2", "-5/2 -1", "1 3"},
	{"-3 -2", "1/2 4", "-5/2 2", "-7 -5/2", "-12 -1"},
	{"1/3 1/2", "6/5 2", "23/15 5/2", "-5/3 -7/10", "2/5 1"},
	{"2 3", "-5 7", "-3 10", "-5 8", "-15 21"},
	{"-3 -2", "-5 7", "-8 5", "-10 3", "-21 15"},
	{"-5 1", "-4 2", "-9 3", "-7 5", "-10 20"},
	{"-5 1", "-2 4", "-7 5", "-9 3", "-20 10"},
	{"-1 5", "-4 2", "-5 7", "-3 9", "-20 10"},
	{"-1 5", "-2 4", "-3 9", "-5 7", "-10 20"},
	// An end at 0.
	{"0 2", "0 3", "0 5", "-3 2", "0 6"},
	{"0 2", "-3 0", "-3 2", "0 5", "-6 0"},
	{"-2 0", "0 3", "-2 3", "-5 0", "-6 0"},
	{"-2 0", "-3 0", "-5 0", "-2 3", "0 6"},
	{"-2 0", "-3 4", "-5 4", "-6 3", "-8 6"},
	{"0 2", "-3 4", "-3 6", "-4 5", "-6 8"},
	{"0 2", "1 3", "1 5", "-3 1", "0 6"},
	{"-2 0", "1 3", "-1 3", "-5 -1", "-6 0"},
	{"-2 0", "-3 -1", "-5 -1", "-1 3", "0 6"},
	// Intervals of one number, and the same interval twice.
	{"0 0", "0 0", "0 0", "0 0", "0 0"},
	{"0 0", "-3 4", "-3 4", "-4 3", "0 0"},
	{"5 5", "1/2 1/2", "11/2 11/2", "9/2 9/2", "5/2 5/2"},
	{"-5 -5", "-1 2", "-6 -3", "-7 -4", "-10 5"},
	{"5 5", "-1 2", "4 7", "3 6", "-5 10"},
	{"1 2", "1 2", "2 4", "-1 1", "1 4"},
	{"-1 1", "-1 1", "-2 2", "-2 2", "-1 1"},
	// Numbers of more than one limb.
	{"4294967295 4294967295", "1 1", "4294967296 4294967296", "4294967294 4294967294", "4294967295 4294967295"},
	{
		"-18446744073709551616 18446744073709551616", "1/18446744073709551616 1",
		"-340282366920938463463374607431768211455/18446744073709551616 18446744073709551617",
		"-18446744073709551617 340282366920938463463374607431768211455/18446744073709551616",
		"-18446744073709551616 18446744073709551616",
	},
	{"-18446744073709551616 4294967296", "-4294967296 18446744073709551616", "-18446744078004518912 18446744078004518912", "-36893488147419103232 8589934592", "-340282366920938463463374607431768211456 79228162514264337593543950336"},
}

func TestP5_2AddSubMul(t *testing.T) {
	for _, c := range operations {
		for _, a := range spanForms(readSpan(c.a)) {
			for _, b := range spanForms(readSpan(c.b)) {
				if got, back := span.Add(a, b), span.Add(b, a); !is(got, c.add) || !is(back, c.add) {
					t.Fatalf("Add(%v, %v): %v, back %v, expected %s", a, b, got, back, c.add)
				}
				if got := span.Sub(a, b); !is(got, c.sub) {
					t.Fatalf("Sub(%v, %v): %v, expected %s", a, b, got, c.sub)
				}
				if got, back := span.Mul(a, b), span.Mul(b, a); !is(got, c.mul) || !is(back, c.mul) {
					t.Fatalf("Mul(%v, %v): %v, back %v, expected %s", a, b, got, back, c.mul)
				}
			}
		}
	}
}

func TestP5_2AgainstReference(t *testing.T) {
	pairs(2, func(a, b api.Span) {
		lowA, highA := ends(a)
		lowB, highB := ends(b)
		if got := span.Add(a, b); !equal(got, new(big.Rat).Add(lowA, lowB), new(big.Rat).Add(highA, highB)) {
			t.Fatalf("Add(%v, %v): %v", a, b, got)
		}
		if got := span.Sub(a, b); !equal(got, new(big.Rat).Sub(lowA, highB), new(big.Rat).Sub(highA, lowB)) {
			t.Fatalf("Sub(%v, %v): %v", a, b, got)
		}
		least := new(big.Rat).Mul(lowA, lowB)
		most := least
		for _, p := range []*big.Rat{new(big.Rat).Mul(lowA, highB), new(big.Rat).Mul(highA, lowB), new(big.Rat).Mul(highA, highB)} {
			if p.Cmp(least) < 0 {
				least = p
			}
			if p.Cmp(most) > 0 {
				most = p
			}
		}
		if got := span.Mul(a, b); !equal(got, least, most) {
			t.Fatalf("Mul(%v, %v): %v", a, b, got)
		}
	})
}

func TestP5_3Scale(t *testing.T) {
	for _, c := range []struct{ a, r, want string }{
		{"1 2", "-1/2", "-1 -1/2"}, {"1 2", "1/2", "1/2 1"}, {"1 2", "0", "0 0"}, {"1 2", "1", "1 2"}, {"1 2", "-1", "-2 -1"}, {"1 2", "4/6", "2/3 4/3"}, {"1 2", "5/0", "0 0"},
		{"-1 2", "3", "-3 6"}, {"-1 2", "-3", "-6 3"}, {"-1 2", "0", "0 0"}, {"-3 -2", "2", "-6 -4"}, {"-3 -2", "-2", "4 6"}, {"-3 -2", "0", "0 0"},
		{"0 2", "-1", "-2 0"}, {"0 2", "3/2", "0 3"}, {"-2 0", "-1/2", "0 1"}, {"-2 0", "1/2", "-1 0"}, {"0 0", "-5", "0 0"}, {"0 0", "5", "0 0"}, {"0 0", "0", "0 0"},
		{"1/3 1/2", "6", "2 3"}, {"1/3 1/2", "-6", "-3 -2"}, {"5 5", "-1/5", "-1 -1"}, {"5 5", "1/5", "1 1"}, {"5 5", "0", "0 0"},
		{"-18446744073709551616 1", "-1/4294967296", "-1/4294967296 4294967296"}, {"-1 1", big64, "-18446744073709551616 18446744073709551616"}, {justBelow1 + " " + justAbove1, "-" + big64, "-18446744073709551617 -18446744073709551615"},
	} {
		for _, a := range spanForms(readSpan(c.a)) {
			for _, r := range forms(read(c.r)) {
				if got := span.Scale(a, r); !is(got, c.want) {
					t.Errorf("Scale(%v, %v): %v, expected %s", a, r, got, c.want)
				}
			}
		}
	}
	pairs(3, func(a, b api.Span) {
		lo, hi := ends(a)
		r := bigOf(b.Lo)
		low, up := new(big.Rat).Mul(lo, r), new(big.Rat).Mul(hi, r)
		if r.Sign() < 0 {
			low, up = up, low
		}
		if got := span.Scale(a, b.Lo); !equal(got, low, up) {
			t.Fatalf("Scale(%v, %v): %v", a, b.Lo, got)
		}
	})
}

func TestP5_4Has(t *testing.T) {
	for _, c := range []struct {
		a       string
		in, out []string
	}{
		{"0 1", []string{"0", "5/0", justAbove0, "1/2", justBelow1, "1", "3/3"}, []string{justBelow0, justAbove1, "-1", "2", "-1/2", big64, hugeNegative}},
		{"-1 0", []string{"-1", "0", "-5/0", justBelow0, "-1/2", "-" + justBelow1}, []string{justAbove0, "-" + justAbove1, "1", "-2", "1/2"}},
		{"-1/2 -1/3", []string{"-1/2", "-1/3", "-2/5", "-4/8", "-2/6"}, []string{"0", "5/0", "-1/4", "-3/5", "1/2", "1/3", "2/5"}},
		{"1/3 1/2", []string{"1/3", "1/2", "2/5"}, []string{"0", "1/4", "3/5", "-2/5", "-1/3", "-1/2"}},
		{"0 0", []string{"0", "5/0", "0/9"}, []string{justAbove0, justBelow0, "1", "-1"}},
		{"5 5", []string{"5", "10/2"}, []string{"0", "-5", "5/2", "18446744073709551617/3689348814741910323", "89/18", "91/18"}},
		{"18446744073709551616 18446744073709551618", []string{big64, "18446744073709551617", "18446744073709551618"}, []string{"18446744073709551615", "18446744073709551619", "0", "-18446744073709551617"}},
	} {
		for _, a := range spanForms(readSpan(c.a)) {
			for i, s := range append(slices.Clone(c.in), c.out...) {
				for _, r := range forms(read(s)) {
					if got := span.Has(a, r); got != (i < len(c.in)) {
						t.Errorf("Has(%v, %v): %t", a, r, got)
					}
				}
			}
		}
	}
	pairs(4, func(a, b api.Span) {
		for _, r := range []api.Ratio{b.Lo, b.Hi, a.Lo, a.Hi} {
			if got := span.Has(a, r); got != lies(bigOf(r), a) {
				t.Fatalf("Has(%v, %v): %t", a, r, got)
			}
		}
	})
}

func TestP5_4Within(t *testing.T) {
	for _, c := range []struct {
		a, b       string
		want, back bool
	}{
		// Equal intervals, and intervals with one common end.
		{"0 1", "0 1", true, true}, {"-1/2 2/3", "-2/4 4/6", true, true}, {"0 0", "0 0", true, true}, {"5 5", "5 5", true, true}, {"0 1", "0 2", true, false}, {"1 2", "0 2", true, false},
		{"-2 -1", "-2 0", true, false}, {"-1 0", "-2 0", true, false}, {"0 0", "0 1", true, false}, {"0 0", "-1 0", true, false}, {"0 1", "0 " + justAbove1, true, false}, {"0 1", justBelow0 + " 1", true, false},
		// One within the other, without a common end.
		{"1 2", "0 3", true, false}, {"-1 1", "-2 2", true, false}, {"0 0", "-1 1", true, false}, {"1/3 1/2", "1/4 2/3", true, false}, {"-1/2 -1/3", "-1 0", true, false}, {"7 7", "-" + big64 + " " + big64, true, false},
		// Overlapping, with one number in common, and with none.
		{"0 2", "1 3", false, false}, {"-2 0", "-1 1", false, false}, {"0 1", "1 2", false, false}, {"0 1", "2 3", false, false}, {"-3 -2", "2 3", false, false}, {"1 1", "2 2", false, false},
		{"0 " + justAbove1, "0 1", false, true}, {"0 0", justAbove0 + " 1", false, false},
	} {
		for _, a := range spanForms(readSpan(c.a)) {
			for _, b := range spanForms(readSpan(c.b)) {
				if got, back := span.Within(a, b), span.Within(b, a); got != c.want || back != c.back {
					t.Errorf("Within(%v, %v): %t, back %t", a, b, got, back)
				}
			}
		}
	}
	pairs(5, func(a, b api.Span) {
		lo, hi := ends(a)
		if got := span.Within(a, b); got != (lies(lo, b) && lies(hi, b)) {
			t.Fatalf("Within(%v, %v): %t", a, b, got)
		}
	})
}

// positions are two intervals, what they have in common, what contains both,
// and their order.
var positions = []struct {
	a, b, meet, hull string
	order            int
}{
	// Exactly one number in common.
	{"0 1", "1 2", "1 1", "0 2", 0}, {"-1 0", "0 1", "0 0", "-1 1", 0}, {"-2 -1", "-1 5", "-1 -1", "-2 5", 0}, {"1 1", "1 1", "1 1", "1 1", 0}, {"0 0", "0 0", "0 0", "0 0", 0},
	{"1 1", "1 2", "1 1", "1 2", 0}, {"1 2", "2 2", "2 2", "1 2", 0}, {"1 1", "0 2", "1 1", "0 2", 0}, {"1/3 1/2", "1/2 18446744073709551616", "1/2 1/2", "1/3 18446744073709551616", 0},
	// One within the other, equal, and overlapping.
	{"0 3", "1 2", "1 2", "0 3", 0}, {"0 1", "0 1", "0 1", "0 1", 0}, {"0 2", "0 1", "0 1", "0 2", 0}, {"0 2", "1 2", "1 2", "0 2", 0}, {"0 2", "1 3", "1 2", "0 3", 0}, {"-3 -1", "-2 0", "-2 -1", "-3 0", 0},
	{"-1 1", "-1/2 4/3", "-1/2 1", "-1 4/3", 0}, {"-18446744073709551616 1/18446744073709551616", "0 18446744073709551616", "0 1/18446744073709551616", "-18446744073709551616 18446744073709551616", 0},
	// Nothing in common.
	{"0 1", "2 3", "", "0 3", -1}, {"0 1", "3/2 2", "", "0 2", -1}, {"-3 -2", "-1 0", "", "-3 0", -1}, {"-2 -1", "1 2", "", "-2 2", -1}, {"1 1", "2 2", "", "1 2", -1}, {"0 0", "1 2", "", "0 2", -1}, {"-2 -1", "0 0", "", "-2 0", -1},
	{"0 1", "18446744073709551617/18446744073709551616 2", "", "0 2", -1}, {"-1 -1/18446744073709551616", "0 1", "", "-1 1", -1}, {"1/3 1/3", "1/2 1/2", "", "1/3 1/2", -1},
}

func TestP5_5MeetHull(t *testing.T) {
	for _, c := range positions {
		for _, a := range spanForms(readSpan(c.a)) {
			for _, b := range spanForms(readSpan(c.b)) {
				checkMeet(t, a, b, c.meet)
				checkMeet(t, b, a, c.meet)
				if got, back := span.Hull(a, b), span.Hull(b, a); !is(got, c.hull) || !is(back, c.hull) {
					t.Errorf("Hull(%v, %v): %v, back %v, expected %s", a, b, got, back, c.hull)
				}
			}
		}
	}
}

// checkMeet expects the interval with this notation, or nothing for no notation.
func checkMeet(t *testing.T, a, b api.Span, want string) {
	t.Helper()
	got, ok := span.Meet(a, b)
	if ok != (want != "") || ok && !is(got, want) || !ok && !isNothing(got) {
		t.Errorf("Meet(%v, %v): %v, %t, expected %q", a, b, got, ok, want)
	}
}

func TestP5_5AgainstReference(t *testing.T) {
	pairs(6, func(a, b api.Span) {
		lowA, highA := ends(a)
		lowB, highB := ends(b)
		if lowA.Cmp(lowB) > 0 {
			lowA, lowB = lowB, lowA
		}
		if highA.Cmp(highB) > 0 {
			highA, highB = highB, highA
		}
		if got := span.Hull(a, b); !equal(got, lowA, highB) {
			t.Fatalf("Hull(%v, %v): %v", a, b, got)
		}
		overlap := lowB.Cmp(highA) <= 0
		if got, ok := span.Meet(a, b); ok != overlap || ok && !equal(got, lowB, highA) || !ok && !isNothing(got) {
			t.Fatalf("Meet(%v, %v): %v, %t", a, b, got, ok)
		}
	})
}

func TestP5_6Width(t *testing.T) {
	for s, want := range map[string]string{
		"-1/3 1/2": "5/6", "1 2": "1", "0 1": "1", "-1 0": "1", "-3 -1/2": "5/2", "0 0": "0", "5 5": "0", "-5 -5": "0", "1/3 1/3": "0", "5/0 0": "0", "7/0 1/2": "1/2",
		"1/6 1/2": "1/3", "4294967295 18446744073709551616": "18446744069414584321", justBelow1 + " " + justAbove1: "1/9223372036854775808", "-18446744073709551616 18446744073709551616": "36893488147419103232",
		"18446744073709551616 18446744073709551616": "0",
	} {
		for _, a := range spanForms(readSpan(s)) {
			if got := span.Width(a); !isNumber(got, want) {
				t.Errorf("Width(%v): %v, expected %s", a, got, want)
			}
		}
	}
	for _, a := range append(intervals(numbers), random(7, 2000)...) {
		lo, hi := ends(a)
		if got := span.Width(a); !same(got, normal(new(big.Rat).Sub(hi, lo))) {
			t.Fatalf("Width(%v): %v", a, got)
		}
	}
}

func TestP5_6Order(t *testing.T) {
	for _, c := range positions {
		for _, a := range spanForms(readSpan(c.a)) {
			for _, b := range spanForms(readSpan(c.b)) {
				if got, back := span.Order(a, b), span.Order(b, a); got != c.order || back != -c.order {
					t.Errorf("Order(%v, %v): %d, back %d, expected %d", a, b, got, back, c.order)
				}
			}
		}
	}
	pairs(8, func(a, b api.Span) {
		lowA, highA := ends(a)
		lowB, highB := ends(b)
		want := 0
		if highA.Cmp(lowB) < 0 {
			want = -1
		}
		if lowA.Cmp(highB) > 0 {
			want = 1
		}
		if got := span.Order(a, b); got != want {
			t.Fatalf("Order(%v, %v): %d, expected %d", a, b, got, want)
		}
	})
}

func TestP5_7Enclosure(t *testing.T) {
	check := func(a, b api.Span) {
		sum, difference, product := span.Add(a, b), span.Sub(a, b), span.Mul(a, b)
		for _, x := range members(a) {
			for _, y := range members(b) {
				if !span.Has(sum, normal(new(big.Rat).Add(x, y))) || !span.Has(difference, normal(new(big.Rat).Sub(x, y))) || !span.Has(product, normal(new(big.Rat).Mul(x, y))) {
					t.Fatalf("%v in %v, %v in %v: sums %v, differences %v, products %v", x, a, y, b, sum, difference, product)
				}
			}
			if scaled := span.Scale(a, b.Hi); !span.Has(scaled, normal(new(big.Rat).Mul(x, bigOf(b.Hi)))) {
				t.Fatalf("%v in %v times %v: %v", x, a, b.Hi, scaled)
			}
		}
	}
	fewPairs(9, check)
}

func TestP5_8Sets(t *testing.T) {
	check := func(a, b api.Span) {
		meet, ok := span.Meet(a, b)
		hull := span.Hull(a, b)
		if ok != (span.Order(a, b) == 0) {
			t.Fatalf("Meet and Order of %v, %v", a, b)
		}
		if ok && (!span.Within(meet, a) || !span.Within(meet, b)) || !span.Within(a, hull) || !span.Within(b, hull) {
			t.Fatalf("%v, %v: Meet %v, Hull %v", a, b, meet, hull)
		}
		for _, x := range slices.Concat(members(a), members(b), outsiders(a), outsiders(b)) {
			r := normal(x)
			if both := span.Has(a, r) && span.Has(b, r); both != (ok && span.Has(meet, r)) {
				t.Fatalf("%v in %v and in %v: %t; Meet is %v, %t", x, a, b, both, meet, ok)
			}
		}
	}
	fewPairs(10, check)
}

func TestP5_9Width(t *testing.T) {
	pairs(11, func(a, b api.Span) {
		widthA, widthB := span.Width(a), span.Width(b)
		if one := bigOf(a.Lo).Cmp(bigOf(a.Hi)) == 0; widthA.Num.Neg || one != (bigOf(widthA).Sign() == 0) {
			t.Fatalf("Width(%v): %v", a, widthA)
		}
		sum := normal(new(big.Rat).Add(bigOf(widthA), bigOf(widthB)))
		if got := span.Width(span.Add(a, b)); !same(got, sum) {
			t.Fatalf("the width of Add(%v, %v): %v, expected %v", a, b, got, sum)
		}
		if got := span.Width(span.Sub(a, b)); !same(got, sum) {
			t.Fatalf("the width of Sub(%v, %v): %v, expected %v", a, b, got, sum)
		}
		factor := bigOf(b.Lo)
		if got := span.Width(span.Scale(a, b.Lo)); !same(got, normal(factor.Mul(factor.Abs(factor), bigOf(widthA)))) {
			t.Fatalf("the width of Scale(%v, %v): %v", a, b.Lo, got)
		}
	})
}

func TestP5_10Monotonicity(t *testing.T) {
	check := func(a, b, c api.Span) {
		if !span.Within(span.Add(a, c), span.Add(b, c)) || !span.Within(span.Sub(a, c), span.Sub(b, c)) || !span.Within(span.Mul(a, c), span.Mul(b, c)) {
			t.Fatalf("%v lies within %v, but not so after an operation with %v", a, b, c)
		}
	}
	for _, a := range intervals(few) {
		for _, b := range intervals(few) {
			if !span.Within(a, b) {
				continue
			}
			for _, c := range intervals(numbers) {
				check(a, b, c)
			}
		}
	}
	list := random(12, 300)
	for i := range len(list) - 2 {
		inner, outer := list[i], span.Hull(list[i], list[i+1])
		if !span.Within(inner, outer) {
			t.Fatalf("%v does not lie within %v", inner, outer)
		}
		check(inner, outer, list[i+2])
	}
}

func TestP5_10WithinIsAnOrder(t *testing.T) {
	pairs(13, func(a, b api.Span) {
		lowA, highA := ends(a)
		lowB, highB := ends(b)
		if !span.Within(a, a) {
			t.Fatalf("%v does not lie within itself", a)
		}
		equals := lowA.Cmp(lowB) == 0 && highA.Cmp(highB) == 0
		if (span.Within(a, b) && span.Within(b, a)) != equals {
			t.Fatalf("Within is not antisymmetric: %v, %v", a, b)
		}
	})
	list := intervals(few)
	for _, a := range list {
		for _, b := range list {
			for _, c := range list {
				if span.Within(a, b) && span.Within(b, c) && !span.Within(a, c) {
					t.Fatalf("Within is not transitive: %v, %v, %v", a, b, c)
				}
			}
		}
	}
}

// results returns every interval and number that the functions return for the two.
func results(a, b api.Span) []api.Span {
	meet, _ := span.Meet(a, b)
	self, _ := span.Meet(a, a)
	return []api.Span{
		span.Of(a.Lo, a.Hi), span.Of(a.Hi, a.Lo), span.Of(a.Lo, a.Lo), span.Of(a.Lo, b.Hi), span.Add(a, b), span.Add(a, a), span.Sub(a, b), span.Sub(a, a), span.Mul(a, b), span.Mul(a, a),
		span.Scale(a, b.Lo), span.Scale(a, a.Lo), meet, self, span.Hull(a, b), span.Hull(a, a), {Lo: span.Width(a), Hi: span.Width(b)},
	}
}

// answers returns what the functions that return no numbers answer for the two.
func answers(a, b api.Span) []any {
	_, ok := span.Meet(a, b)
	return []any{span.Has(a, b.Lo), span.Has(a, b.Hi), span.Has(a, a.Lo), span.Within(a, b), span.Within(b, a), span.Order(a, b), ok}
}

// overwrite changes all the memory of a natural number, its spare capacity too.
func overwrite(a api.Nat) {
	for i := range a[:cap(a)] {
		a[:cap(a)][i] = 0xdeadbeef
	}
}

func memories(a api.Span) []api.Nat {
	return []api.Nat{a.Lo.Num.Mag, a.Lo.Den, a.Hi.Num.Mag, a.Hi.Den}
}

// some returns intervals with ends of all kinds, in all kinds of forms.
func some() []api.Span {
	var list []api.Span
	for _, s := range []string{"0 0", "1 1", "1 2", "2 1", "-2 -1", "-1 3", "0 5", "-5 0", "2/4 3/6", "5/0 1/2", "-1/3 7/0", "-" + big64 + " " + hugeNumber, big64 + " " + big64} {
		all := spanForms(readSpan(s))
		list = append(list, all[0], all[3], all[len(all)-2])
	}
	return append(list, api.Span{}, api.Span{Lo: read("3"), Hi: api.Ratio{}})
}

func TestP2ArgumentsAndResultsAreApart(t *testing.T) {
	// The arguments are parts of longer slices, whose rest must not change either.
	part := func(n api.Nat) api.Nat { return append(slices.Clone(n), 77, 78)[:len(n)] }
	number := func(x api.Ratio) api.Ratio {
		return api.Ratio{Num: api.Int{Neg: x.Num.Neg, Mag: part(x.Num.Mag)}, Den: part(x.Den)}
	}
	parts := func(x api.Span) api.Span { return api.Span{Lo: number(x.Lo), Hi: number(x.Hi)} }
	kept := func(a, x api.Span) bool {
		for _, n := range memories(a) {
			if !slices.Equal(n[len(n):len(n)+2], []uint32{77, 78}) {
				return false
			}
		}
		return sameSpan(a, x)
	}
	for _, x := range some() {
		for _, y := range some() {
			a, b := parts(x), parts(y)
			list, want := results(a, b), results(x, y)
			answers(a, b)
			if !kept(a, x) || !kept(b, y) {
				t.Fatalf("an argument was modified: %v, %v", x, y)
			}
			for _, memory := range append(memories(a), memories(b)...) {
				overwrite(memory)
			}
			checkApart(t, list, want)
		}
	}
}

// checkApart overwrites one part of a result after the other: those that
// remain must stay as they are.
func checkApart(t *testing.T, list, want []api.Span) {
	t.Helper()
	for i, result := range list {
		if !sameSpan(result, want[i]) {
			t.Fatalf("result %d shares memory with an argument or a result: %v, expected %v", i, result, want[i])
		}
		parts, expected := memories(result), memories(want[i])
		for j := range parts {
			if !slices.Equal(parts[j], expected[j]) {
				t.Fatalf("part %d of result %d shares memory with another part: %v, expected %v", j, i, result, want[i])
			}
			overwrite(parts[j])
		}
	}
}

func TestP2EndsWithTheSameMemory(t *testing.T) {
	for _, s := range []string{"0", "5/0", "1", "-7/3", "2/4", hugeNegative, big64} {
		x, want := read(s), read(s)
		a := api.Span{Lo: x, Hi: x}
		list := results(a, a)
		fresh := results(api.Span{Lo: read(s), Hi: read(s)}, api.Span{Lo: read(s), Hi: read(s)})
		answers(a, a)
		if !same(x, want) {
			t.Fatalf("an argument was modified: %v, expected %v", x, want)
		}
		checkApart(t, list, fresh)
		if !same(x, want) {
			t.Fatalf("a result shares memory with an argument: %v, expected %v", x, want)
		}
	}
}

func TestEveryFormCountsAsItsNumber(t *testing.T) {
	list := []string{"0 0", "1 1", "-1 2", "-1/2 0", "0 2/3", "1/3 18446744073709551616", "-18446744073709551616 -7/3"}
	for _, s := range list {
		for _, other := range list {
			wanted, answered := results(readSpan(s), readSpan(other)), answers(readSpan(s), readSpan(other))
			for _, a := range spanForms(readSpan(s)) {
				for _, b := range spanForms(readSpan(other)) {
					// Some calls take one end alone, so that it must be the same one.
					a, b := inOrder(a), inOrder(b)
					if got := answers(a, b); !slices.Equal(got, answered) {
						t.Fatalf("%v, %v: %v, expected %v", a, b, got, answered)
					}
					for i, got := range results(a, b) {
						if !sameSpan(got, wanted[i]) {
							t.Fatalf("result %d for %v, %v: %v, expected %v", i, a, b, got, wanted[i])
						}
					}
				}
			}
		}
	}
}

func TestResultsAreInNormalForm(t *testing.T) {
	fewPairs(14, func(a, b api.Span) {
		_, met := span.Meet(a, b)
		for i, got := range results(a, b) {
			if i == 12 && !met {
				continue
			}
			lo, hi := bigOf(got.Lo), bigOf(got.Hi)
			if !same(got.Lo, normal(lo)) || !same(got.Hi, normal(hi)) || i < 16 && lo.Cmp(hi) > 0 {
				t.Fatalf("result %d for %v, %v is not in normal form: %v", i, a, b, got)
			}
		}
	})
}

func TestExamplesOfTheChapter(t *testing.T) {
	for name, c := range map[string]struct {
		got  api.Span
		want string
	}{
		"Of(1/2, -1/3)":           {span.Of(read("1/2"), read("-1/3")), "-1/3 1/2"},
		"Add([1, 2], [-1, 5])":    {span.Add(readSpan("1 2"), readSpan("-1 5")), "0 7"},
		"Sub([1, 2], [-1, 5])":    {span.Sub(readSpan("1 2"), readSpan("-1 5")), "-4 3"},
		"Mul([-1, 2], [-3, 4])":   {span.Mul(readSpan("-1 2"), readSpan("-3 4")), "-6 8"},
		"Scale([1, 2], -1/2)":     {span.Scale(readSpan("1 2"), read("-1/2")), "-1 -1/2"},
		"Hull([0, 1], [2, 3])":    {span.Hull(readSpan("0 1"), readSpan("2 3")), "0 3"},
		"Of(0, 0)":                {span.Of(api.Ratio{}, api.Ratio{}), "0 0"},
		"Sub([1, 2], [1, 2])":     {span.Sub(readSpan("1 2"), readSpan("1 2")), "-1 1"},
		"the sum of zero values":  {span.Add(api.Span{}, api.Span{}), "0 0"},
		"the hull of zero values": {span.Hull(api.Span{}, api.Span{}), "0 0"},
	} {
		if !is(c.got, c.want) {
			t.Errorf("%s: %v, expected %s", name, c.got, c.want)
		}
	}
	checkMeet(t, readSpan("0 1"), readSpan("1 2"), "1 1")
	checkMeet(t, readSpan("0 1"), readSpan("2 3"), "")
	if !span.Has(readSpan("0 1"), read("1")) || !span.Within(readSpan("0 1"), readSpan("0 1")) || !span.Has(api.Span{}, api.Ratio{}) {
		t.Error("Has or Within")
	}
	if got := span.Width(readSpan("-1/3 1/2")); !isNumber(got, "5/6") {
		t.Error("Width", got)
	}
	if span.Order(readSpan("0 1"), readSpan("1 2")) != 0 || span.Order(readSpan("0 1"), readSpan("3/2 2")) != -1 {
		t.Error("Order")
	}
}
