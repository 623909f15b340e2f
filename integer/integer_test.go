package integer_test

import (
	"fmt"
	"math"
	"math/big"
	"math/rand"
	"slices"
	"strings"
	"testing"

	"examboard/api"
	"examboard/integer"
)

const top = math.MaxUint32

// edges are limbs at which carries and borrows change.
var edges = []uint32{0, 0, 1, 2, 1<<31 - 1, 1 << 31, 1<<31 + 1, top - 1, top, top}

// zeros is 0 in every form.
var zeros = []api.Int{
	{}, {Mag: api.Nat{}}, {Mag: api.Nat{0}}, {Mag: api.Nat{0, 0, 0}},
	{Neg: true}, {Neg: true, Mag: api.Nat{}}, {Neg: true, Mag: api.Nat{0}}, {Neg: true, Mag: api.Nat{0, 0, 0}},
}

// bigOf is the reference: it reads an integer by the definition of its value.
func bigOf(a api.Int) *big.Int {
	value := new(big.Int)
	for i, limb := range a.Mag {
		value.Add(value, new(big.Int).Lsh(big.NewInt(int64(limb)), uint(32*i)))
	}
	if a.Neg {
		value.Neg(value)
	}
	return value
}

// isNormal tells whether a has the one form that results have.
func isNormal(a api.Int) bool {
	if len(a.Mag) == 0 {
		return !a.Neg
	}
	return a.Mag[len(a.Mag)-1] != 0
}

// equal tells whether a is the value, in normal form.
func equal(a api.Int, value *big.Int) bool {
	return isNormal(a) && bigOf(a).Cmp(value) == 0
}

// is tells whether a is exactly this sign and these limbs.
func is(a api.Int, neg bool, limbs ...uint32) bool {
	return a.Neg == neg && slices.Equal(a.Mag, limbs)
}

// same tells whether two results are the same one.
func same(a, b api.Int) bool {
	return is(a, b.Neg, b.Mag...)
}

// prints tells whether a is, in normal form, the integer with this notation.
func prints(a api.Int, s string) bool {
	value, ok := new(big.Int).SetString(s, 10)
	return ok && equal(a, value)
}

// read makes an integer of a notation without the functions under test.
func read(s string) api.Int {
	value, ok := new(big.Int).SetString(s, 10)
	if !ok {
		panic(s)
	}
	a := api.Int{Neg: value.Sign() < 0}
	for value.Abs(value); value.Sign() > 0; value.Rsh(value, 32) {
		a.Mag = append(a.Mag, uint32(new(big.Int).And(value, big.NewInt(top)).Uint64()))
	}
	return a
}

// samples returns 0 in every form, and integers of both signs and of up to
// seven limbs, some with high zero limbs; the same ones in every run.
func samples(seed int64, count int) []api.Int {
	source := rand.New(rand.NewSource(seed))
	list := slices.Clone(zeros)
	for range count {
		mag := make(api.Nat, source.Intn(7))
		for i := range mag {
			mag[i] = source.Uint32()
			if source.Intn(2) == 0 {
				mag[i] = edges[source.Intn(len(edges))]
			}
		}
		mag = append(mag, make(api.Nat, source.Intn(4)/2)...)
		list = append(list, api.Int{Neg: source.Intn(2) == 0, Mag: mag})
	}
	return list
}

// pairs calls check with pairs of samples: each zero with everything that
// stands across from it in the list, equal and opposite numbers, and mixtures.
func pairs(seed int64, count int, check func(a, b api.Int)) {
	as, bs := samples(seed, count), samples(seed+1000, count)
	for i, a := range as {
		check(a, bs[len(bs)-1-i])
		check(bs[len(bs)-1-i], a)
		check(a, a)
		check(a, api.Int{Neg: !a.Neg, Mag: append(slices.Clone(a.Mag), 0)})
	}
	for _, a := range zeros {
		for _, b := range zeros {
			check(a, b)
		}
	}
}

func TestP2_1Of(t *testing.T) {
	for _, c := range []struct {
		n    int64
		neg  bool
		want api.Nat
	}{
		{0, false, nil}, {1, false, api.Nat{1}}, {-1, true, api.Nat{1}}, {-7, true, api.Nat{7}},
		{top, false, api.Nat{top}}, {-top, true, api.Nat{top}}, {1 << 32, false, api.Nat{0, 1}}, {-1 << 32, true, api.Nat{0, 1}},
		{math.MaxInt64, false, api.Nat{top, 1<<31 - 1}}, {math.MaxInt64 - 1, false, api.Nat{top - 1, 1<<31 - 1}},
		{math.MinInt64, true, api.Nat{0, 1 << 31}}, {math.MinInt64 + 1, true, api.Nat{top, 1<<31 - 1}},
	} {
		if got := integer.Of(c.n); !is(got, c.neg, c.want...) {
			t.Errorf("Of(%d): %v, expected %v %v", c.n, got, c.neg, c.want)
		}
	}
	source := rand.New(rand.NewSource(1))
	for range 2000 {
		n := int64(source.Uint64()) >> source.Intn(64)
		if got := integer.Of(n); !equal(got, big.NewInt(n)) {
			t.Fatalf("Of(%d): %v", n, got)
		}
	}
}

func TestP2_1MakeAndNorm(t *testing.T) {
	for _, c := range []struct {
		neg     bool
		mag     api.Nat
		wantNeg bool
		want    api.Nat
	}{
		{false, nil, false, nil}, {true, nil, false, nil}, {false, api.Nat{0}, false, nil}, {true, api.Nat{0}, false, nil},
		{true, api.Nat{0, 0}, false, nil}, {false, api.Nat{7}, false, api.Nat{7}}, {true, api.Nat{7}, true, api.Nat{7}},
		{false, api.Nat{7, 0, 0}, false, api.Nat{7}}, {true, api.Nat{7, 0, 0}, true, api.Nat{7}},
		{true, api.Nat{0, 7, 0}, true, api.Nat{0, 7}}, {false, api.Nat{0, 0, 7}, false, api.Nat{0, 0, 7}},
	} {
		if got := integer.Make(c.neg, c.mag); !is(got, c.wantNeg, c.want...) {
			t.Errorf("Make(%v, %v): %v", c.neg, c.mag, got)
		}
		if got := integer.Norm(api.Int{Neg: c.neg, Mag: c.mag}); !is(got, c.wantNeg, c.want...) {
			t.Errorf("Norm(%v, %v): %v", c.neg, c.mag, got)
		}
	}
	for _, a := range samples(2, 2000) {
		if got := integer.Norm(a); !equal(got, bigOf(a)) {
			t.Fatalf("Norm(%v): %v", a, got)
		}
		if got := integer.Make(a.Neg, a.Mag); !equal(got, bigOf(a)) {
			t.Fatalf("Make(%v, %v): %v", a.Neg, a.Mag, got)
		}
	}
}

func TestP2_2FixedOrder(t *testing.T) {
	// Each integer is less than the next one.
	order := []string{
		"-18446744073709551616", "-9223372036854775809", "-9223372036854775808", "-9223372036854775807", "-4294967296", "-4294967295",
		"-4", "-3", "-1", "0", "1", "2", "3", "4294967295", "4294967296", "9223372036854775807", "9223372036854775808", "18446744073709551616",
	}
	for i, a := range order {
		for j, b := range order {
			want := 0
			if i < j {
				want = -1
			} else if i > j {
				want = 1
			}
			x, y := read(a), read(b)
			y.Mag = append(y.Mag, 0, 0)
			if got := integer.Cmp(x, y); got != want {
				t.Errorf("Cmp(%s, %s): %d, expected %d", a, b, got, want)
			}
		}
	}
}

func TestP2_2CmpAndSign(t *testing.T) {
	for _, a := range zeros {
		if integer.Sign(a) != 0 || integer.Cmp(a, integer.Of(1)) != -1 || integer.Cmp(a, integer.Of(-1)) != 1 {
			t.Errorf("the zero %v has a wrong sign or order", a)
		}
	}
	pairs(3, 3000, func(a, b api.Int) {
		if got, want := integer.Cmp(a, b), bigOf(a).Cmp(bigOf(b)); got != want {
			t.Fatalf("Cmp(%v, %v): %d, expected %d", a, b, got, want)
		}
		if got := integer.Sign(a); got != bigOf(a).Sign() || got != integer.Cmp(a, api.Int{}) {
			t.Fatalf("Sign(%v): %d", a, got)
		}
	})
}

func TestP2_3FixedValues(t *testing.T) {
	for _, c := range []struct{ a, b, sum, difference, product string }{
		{"0", "0", "0", "0", "0"}, {"0", "-5", "-5", "5", "0"}, {"-5", "0", "-5", "-5", "0"}, {"5", "0", "5", "5", "0"},
		{"-5", "3", "-2", "-8", "-15"}, {"5", "-3", "2", "8", "-15"}, {"-3", "5", "2", "-8", "-15"}, {"3", "-5", "-2", "8", "-15"},
		{"-5", "-3", "-8", "-2", "15"}, {"-3", "-5", "-8", "2", "15"}, {"3", "5", "8", "-2", "15"}, {"5", "3", "8", "2", "15"},
		{"-5", "5", "0", "-10", "-25"}, {"5", "5", "10", "0", "25"}, {"-5", "-5", "-10", "0", "25"}, {"-1", "-1", "-2", "0", "1"},
		{"-4", "-4294967296", "-4294967300", "4294967292", "17179869184"},
		{"4294967295", "1", "4294967296", "4294967294", "4294967295"}, {"1", "4294967296", "4294967297", "-4294967295", "4294967296"},
		{"-4294967296", "1", "-4294967295", "-4294967297", "-4294967296"},
		{"-9223372036854775808", "-9223372036854775808", "-18446744073709551616", "0", "85070591730234615865843651857942052864"},
	} {
		a, b := read(c.a), read(c.b)
		if got := integer.Add(a, b); !prints(got, c.sum) {
			t.Errorf("%s + %s: %v, expected %s", c.a, c.b, got, c.sum)
		}
		if got := integer.Sub(a, b); !prints(got, c.difference) {
			t.Errorf("%s - %s: %v, expected %s", c.a, c.b, got, c.difference)
		}
		if got := integer.Mul(a, b); !prints(got, c.product) {
			t.Errorf("%s * %s: %v, expected %s", c.a, c.b, got, c.product)
		}
	}
}

func TestP2_3AgainstReference(t *testing.T) {
	pairs(4, 5000, func(a, b api.Int) {
		x, y := bigOf(a), bigOf(b)
		if got := integer.Neg(a); !equal(got, new(big.Int).Neg(x)) {
			t.Fatalf("Neg(%v): %v", a, got)
		}
		if got := integer.Add(a, b); !equal(got, new(big.Int).Add(x, y)) {
			t.Fatalf("Add(%v, %v): %v", a, b, got)
		}
		if got := integer.Sub(a, b); !equal(got, new(big.Int).Sub(x, y)) {
			t.Fatalf("Sub(%v, %v): %v", a, b, got)
		}
		if got := integer.Mul(a, b); !equal(got, new(big.Int).Mul(x, y)) {
			t.Fatalf("Mul(%v, %v): %v", a, b, got)
		}
	})
}

func TestP2_4FixedValues(t *testing.T) {
	for _, c := range []struct{ a, b, quotient, rest string }{
		{"7", "2", "3", "1"}, {"-7", "2", "-4", "1"}, {"7", "-2", "-4", "-1"}, {"-7", "-2", "3", "-1"},
		{"6", "2", "3", "0"}, {"-6", "2", "-3", "0"}, {"6", "-2", "-3", "0"}, {"-6", "-2", "3", "0"},
		{"1", "3", "0", "1"}, {"-1", "3", "-1", "2"}, {"1", "-3", "-1", "-2"}, {"-1", "-3", "0", "-1"},
		{"0", "9", "0", "0"}, {"0", "-9", "0", "0"}, {"5", "1", "5", "0"}, {"5", "-1", "-5", "0"}, {"-5", "-1", "5", "0"},
		{"-18446744073709551615", "1", "-18446744073709551615", "0"},
		{"-18446744073709551615", "2", "-9223372036854775808", "1"}, {"18446744073709551615", "-2", "-9223372036854775808", "-1"},
		{"-18446744073709551614", "4294967296", "-4294967296", "2"}, {"-1", "18446744073709551616", "-1", "18446744073709551615"},
		// The quotient below 0 carries into a new limb.
		{"-8589934590", "2", "-4294967295", "0"}, {"-8589934591", "2", "-4294967296", "1"},
		{"-9223372036854775808", "-1", "9223372036854775808", "0"},
	} {
		quotient, rest, ok := integer.DivMod(read(c.a), read(c.b))
		if !prints(quotient, c.quotient) || !prints(rest, c.rest) || !ok {
			t.Errorf("%s / %s: %v, %v, %v, expected %s, %s", c.a, c.b, quotient, rest, ok, c.quotient, c.rest)
		}
	}
	numbers := append(samples(5, 20), read("5"), read("-5"))
	for _, a := range numbers {
		for _, zero := range zeros {
			if quotient, rest, ok := integer.DivMod(a, zero); !is(quotient, false) || !is(rest, false) || ok {
				t.Errorf("%v / %v: %v, %v, %v", a, zero, quotient, rest, ok)
			}
		}
	}
}

// floored returns the quotient rounded down and its remainder.
func floored(x, y *big.Int) (*big.Int, *big.Int) {
	quotient, rest := new(big.Int).QuoRem(x, y, new(big.Int))
	if rest.Sign() == -y.Sign() {
		quotient.Sub(quotient, big.NewInt(1))
		rest.Add(rest, y)
	}
	return quotient, rest
}

func TestP2_4AgainstReference(t *testing.T) {
	pairs(6, 10000, func(a, b api.Int) {
		if bigOf(b).Sign() == 0 {
			return
		}
		quotient, rest, ok := integer.DivMod(a, b)
		wantQuotient, wantRest := floored(bigOf(a), bigOf(b))
		if !equal(quotient, wantQuotient) || !equal(rest, wantRest) || !ok {
			t.Fatalf("%v / %v: %v, %v, %v, expected %v, %v", a, b, quotient, rest, ok, wantQuotient, wantRest)
		}
	})
}

func TestP2_5Int64(t *testing.T) {
	for _, c := range []struct {
		s    string
		want int64
		ok   bool
	}{
		{"0", 0, true}, {"1", 1, true}, {"-1", -1, true}, {"4294967296", 1 << 32, true}, {"-4294967296", -1 << 32, true},
		{"9223372036854775806", math.MaxInt64 - 1, true}, {"9223372036854775807", math.MaxInt64, true}, {"9223372036854775808", 0, false},
		{"9223372036854775809", 0, false}, {"-9223372036854775807", math.MinInt64 + 1, true}, {"-9223372036854775808", math.MinInt64, true},
		{"-9223372036854775809", 0, false}, {"-9223372036854775810", 0, false}, {"18446744073709551615", 0, false}, {"-18446744073709551615", 0, false},
		{"18446744073709551616", 0, false}, {"-18446744073709551616", 0, false}, {"18446744073709551617", 0, false}, {"-18446744073709551617", 0, false},
	} {
		a := read(c.s)
		for range 3 {
			if got, ok := integer.Int64(a); got != c.want || ok != c.ok {
				t.Errorf("Int64(%v): %d, %v, expected %d, %v", a, got, ok, c.want, c.ok)
			}
			a.Mag = append(a.Mag, 0)
		}
	}
	for _, a := range zeros {
		if got, ok := integer.Int64(a); got != 0 || !ok {
			t.Errorf("Int64 of the zero %v: %d, %v", a, got, ok)
		}
	}
	for _, a := range samples(7, 3000) {
		got, ok := integer.Int64(a)
		if value := bigOf(a); ok != value.IsInt64() || ok && got != value.Int64() || !ok && got != 0 {
			t.Fatalf("Int64(%v): %d, %v", a, got, ok)
		}
	}
}

func TestP2_6Parse(t *testing.T) {
	nines := strings.Repeat("9", api.MaxDigits)
	for s, want := range map[string]api.Errno{
		"0": api.OK, "7": api.OK, "-7": api.OK, "-12": api.OK, "10": api.OK, "-10": api.OK, "-4294967296": api.OK,
		"-9223372036854775808": api.OK, "-18446744073709551616": api.OK, nines: api.OK, "-" + nines: api.OK,
		"": api.ErrSyntax, "-": api.ErrSyntax, "--": api.ErrSyntax, "-0": api.ErrSyntax, "+1": api.ErrSyntax, "+0": api.ErrSyntax,
		"--1": api.ErrSyntax, "-+1": api.ErrSyntax, "+-1": api.ErrSyntax, "01": api.ErrSyntax, "-01": api.ErrSyntax, "00": api.ErrSyntax,
		"-00": api.ErrSyntax, "- 1": api.ErrSyntax, " -1": api.ErrSyntax, "-1 ": api.ErrSyntax, "1-": api.ErrSyntax, "1-2": api.ErrSyntax,
		"-1\n": api.ErrSyntax, "1.0": api.ErrSyntax, "-1e3": api.ErrSyntax, "-0x1": api.ErrSyntax, "1_0": api.ErrSyntax, "\u22121": api.ErrSyntax,
		"-\x00": api.ErrSyntax, "-1\xff": api.ErrSyntax, "\u0663": api.ErrSyntax, "-a": api.ErrSyntax,
		nines + "9": api.ErrTooLong, "-" + nines + "9": api.ErrTooLong, "-" + strings.Repeat(nines, 3): api.ErrTooLong,
		// A wrong byte and a leading zero come before the length.
		"-" + nines + "9x": api.ErrSyntax, "-0" + nines: api.ErrSyntax, "--" + nines: api.ErrSyntax, "-" + nines + "-": api.ErrSyntax,
	} {
		got, e := integer.Parse(s)
		if e != want || e != api.OK && !is(got, false) || e == api.OK && !prints(got, s) {
			t.Errorf("Parse(%.30q): %v, %d, expected %d", s, got, e, want)
		}
	}
	if got, e := integer.Parse("-12"); !is(got, true, 12) || e != api.OK {
		t.Error("Parse of -12", got, e)
	}
}

func TestP2_7Print(t *testing.T) {
	for _, a := range zeros {
		if got := integer.Print(a); got != "0" {
			t.Errorf("Print(%v): %q", a, got)
		}
	}
	for _, s := range []string{"1", "-1", "-12", "4294967296", "-1000000000", "-18446744073709551616", "-1" + strings.Repeat("0", 1024), strings.Repeat("9", 1025)} {
		if got := integer.Print(read(s)); got != s {
			t.Errorf("Print of %.30s: %.30q", s, got)
		}
	}
	for _, a := range samples(8, 3000) {
		if got, want := integer.Print(a), bigOf(a).String(); got != want {
			t.Fatalf("Print(%v): %s, expected %s", a, got, want)
		}
	}
}

func TestP2_8Ring(t *testing.T) {
	add, mul, zero, one := integer.Add, integer.Mul, integer.Of(0), integer.Of(1)
	third := samples(9, 500)
	i := 0
	pairs(10, 2000, func(a, b api.Int) {
		i++
		c := third[i%len(third)]
		for _, law := range []struct {
			name        string
			left, right api.Int
		}{
			{"a + b = b + a", add(a, b), add(b, a)},
			{"a b = b a", mul(a, b), mul(b, a)},
			{"(a + b) + c = a + (b + c)", add(add(a, b), c), add(a, add(b, c))},
			{"(a b) c = a (b c)", mul(mul(a, b), c), mul(a, mul(b, c))},
			{"a (b + c) = a b + a c", mul(a, add(b, c)), add(mul(a, b), mul(a, c))},
			{"a + 0 = a", add(a, zero), integer.Norm(a)},
			{"a 1 = a", mul(a, one), integer.Norm(a)},
			{"a 0 = 0", mul(a, zero), zero},
			{"a + -a = 0", add(a, integer.Neg(a)), zero},
			{"a - b = a + -b", integer.Sub(a, b), add(a, integer.Neg(b))},
		} {
			if !same(law.left, law.right) {
				t.Fatalf("%s: %v, %v, %v: %v, %v", law.name, a, b, c, law.left, law.right)
			}
		}
		if zeroFactor := integer.Sign(a) == 0 || integer.Sign(b) == 0; (integer.Sign(mul(a, b)) == 0) != zeroFactor {
			t.Fatalf("a b = 0: %v, %v", a, b)
		}
	})
}

func TestP2_9Division(t *testing.T) {
	pairs(11, 5000, func(a, b api.Int) {
		quotient, rest, ok := integer.DivMod(a, b)
		if ok != (integer.Sign(b) != 0) {
			t.Fatalf("DivMod(%v, %v): %v", a, b, ok)
		}
		if !ok {
			return
		}
		if back := integer.Add(integer.Mul(b, quotient), rest); !same(back, integer.Norm(a)) {
			t.Fatalf("a = b q + r: %v, %v: %v, %v", a, b, quotient, rest)
		}
		// From 0 to b, b not included, on the side of 0 where b is.
		side := integer.Sign(b)
		if integer.Sign(rest) == -side || integer.Cmp(rest, b) != -side {
			t.Fatalf("the remainder of %v / %v: %v", a, b, rest)
		}
	})
}

func TestP2_10Order(t *testing.T) {
	third := samples(12, 500)
	i := 0
	pairs(13, 3000, func(a, b api.Int) {
		i++
		c := third[i%len(third)]
		order := integer.Cmp(a, b)
		if order != -integer.Cmp(b, a) || (order == 0) != same(integer.Norm(a), integer.Norm(b)) {
			t.Fatalf("Cmp(%v, %v): %d, the other way %d", a, b, order, integer.Cmp(b, a))
		}
		if order <= 0 && integer.Cmp(b, c) <= 0 && integer.Cmp(a, c) > 0 {
			t.Fatalf("not transitive: %v, %v, %v", a, b, c)
		}
		if got := integer.Cmp(integer.Add(a, c), integer.Add(b, c)); got != order {
			t.Fatalf("%v added to %v and %v: %d, expected %d", c, a, b, got, order)
		}
		if got := integer.Cmp(integer.Mul(a, c), integer.Mul(b, c)); got != order*integer.Sign(c) {
			t.Fatalf("%v times %v and %v: %d, before %d", c, a, b, got, order)
		}
	})
}

func TestP2_11Notation(t *testing.T) {
	for _, a := range samples(14, 3000) {
		back, e := integer.Parse(integer.Print(a))
		if e != api.OK || !same(back, integer.Norm(a)) {
			t.Fatalf("Parse of Print(%v): %v, %d", a, back, e)
		}
	}
	source := rand.New(rand.NewSource(15))
	for length := 1; length <= api.MaxDigits; length++ {
		digits := []byte{byte('1' + source.Intn(9))}
		for len(digits) < length {
			digits = append(digits, byte('0'+source.Intn(10)))
		}
		for _, s := range []string{string(digits), "-" + string(digits), "-1" + strings.Repeat("0", length-1), "-" + strings.Repeat("9", length)} {
			got, e := integer.Parse(s)
			if e != api.OK || !prints(got, s) || integer.Print(got) != s {
				t.Fatalf("Parse(%q): %v, %d", s, got, e)
			}
		}
	}
	numbers := []int64{0, 1, -1, 1 << 32, -1 << 32, math.MaxInt64, math.MaxInt64 - 1, math.MinInt64, math.MinInt64 + 1}
	for range 2000 {
		numbers = append(numbers, int64(source.Uint64())>>source.Intn(64))
	}
	for _, n := range numbers {
		if got, ok := integer.Int64(integer.Of(n)); got != n || !ok {
			t.Fatalf("Int64(Of(%d)): %d, %v", n, got, ok)
		}
	}
}

// results returns every integer that the functions return for the two.
func results(a, b api.Int) []api.Int {
	quotient, rest, _ := integer.DivMod(a, b)
	return []api.Int{
		integer.Make(a.Neg, a.Mag), integer.Norm(a), integer.Neg(a), integer.Neg(b), integer.Add(a, b), integer.Add(b, a),
		integer.Sub(a, b), integer.Sub(b, a), integer.Mul(a, b), quotient, rest,
	}
}

// all writes down what every function answers for the two integers.
func all(a, b api.Int) string {
	_, _, divided := integer.DivMod(a, b)
	n, small := integer.Int64(a)
	text := fmt.Sprintln(integer.Cmp(a, b), integer.Sign(a), divided, n, small, integer.Print(a))
	for _, result := range results(a, b) {
		text += fmt.Sprintln(result.Neg, result.Mag)
	}
	return text
}

func TestEveryFormCountsAsItsNumber(t *testing.T) {
	forms := func(a api.Int) []api.Int {
		list := []api.Int{a, {Neg: a.Neg, Mag: append(slices.Clone(a.Mag), 0)}, {Neg: a.Neg, Mag: append(slices.Clone(a.Mag), 0, 0, 0)}}
		if len(a.Mag) == 0 {
			list = append(list, zeros...)
		}
		return list
	}
	numbers := []string{"0", "1", "-1", "2", "-7", "4294967295", "-4294967296", "9223372036854775808", "-9223372036854775808", "-340282366920938463463374607431768211456"}
	for _, s := range numbers {
		for _, other := range numbers {
			want := all(read(s), read(other))
			for _, a := range forms(read(s)) {
				for _, b := range forms(read(other)) {
					if got := all(a, b); got != want {
						t.Fatalf("%v, %v: %s, expected %s", a, b, got, want)
					}
				}
			}
		}
	}
}

// overwrite changes all the memory of a number, its spare capacity too.
func overwrite(a api.Int) {
	for i := range a.Mag[:cap(a.Mag)] {
		a.Mag[:cap(a.Mag)][i] = 0xdeadbeef
	}
}

func TestP2ArgumentsAndResultsAreApart(t *testing.T) {
	// The arguments are parts of longer slices, whose rest must not change either.
	part := func(x api.Int) api.Int {
		return api.Int{Neg: x.Neg, Mag: append(slices.Clone(x.Mag), 77, 78)[:len(x.Mag)]}
	}
	kept := func(a, x api.Int) bool {
		return same(a, x) && slices.Equal(a.Mag[len(a.Mag):len(a.Mag)+2], []uint32{77, 78})
	}
	mags := []api.Nat{nil, {0}, {1}, {2}, {5, 0}, {1, 1}, {5, 0, 1}, {0, 0, 1}, {top, top, top, 0}}
	var numbers []api.Int
	for _, mag := range mags {
		numbers = append(numbers, api.Int{Mag: mag}, api.Int{Neg: true, Mag: mag})
	}
	for _, x := range numbers {
		for _, y := range numbers {
			a, b := part(x), part(y)
			list, want := results(a, b), results(x, y)
			all(a, b)
			if !kept(a, x) || !kept(b, y) {
				t.Fatalf("an argument was modified: %v, %v", x, y)
			}
			overwrite(a)
			overwrite(b)
			for i := range list {
				if !same(list[i], want[i]) {
					t.Fatalf("result %d for %v, %v shares memory with an argument or a result", i, x, y)
				}
				overwrite(list[i])
			}
		}
	}
}

func TestP2MakeAndParseKeepNothing(t *testing.T) {
	first, _ := integer.Parse("-18446744073709551615")
	overwrite(first)
	if again, _ := integer.Parse("-18446744073709551615"); !is(again, true, top, top) {
		t.Error("two results of Parse share memory", again)
	}
	first = integer.Of(-5)
	overwrite(first)
	if again := integer.Of(-5); !is(again, true, 5) {
		t.Error("two results of Of share memory", again)
	}
	mag := api.Nat{1, 2, 0}
	made := integer.Make(true, mag)
	mag[0] = 9
	if !is(made, true, 1, 2) {
		t.Error("Make keeps its argument", made)
	}
}

func TestExamplesOfTheChapter(t *testing.T) {
	if got := integer.Add(integer.Of(4294967295), integer.Of(1)); !is(got, false, 0, 1) || integer.Print(got) != "4294967296" {
		t.Error("4294967295 + 1", got)
	}
	if got := integer.Print(integer.Sub(integer.Of(1), integer.Of(4294967296))); got != "-4294967295" {
		t.Error("1 - 4294967296", got)
	}
	if got := integer.Mul(integer.Of(-1), integer.Of(-1)); !is(got, false, 1) {
		t.Error("(-1) * (-1)", got)
	}
	if got := integer.Mul(integer.Of(0), integer.Of(-5)); !is(got, false) {
		t.Error("0 * (-5)", got)
	}
	if integer.Cmp(integer.Of(-3), integer.Of(2)) != -1 || integer.Cmp(integer.Of(-3), integer.Of(-4)) != 1 {
		t.Error("the order of -4, -3 and 2")
	}
}

func FuzzAgainstReference(f *testing.F) {
	f.Add(true, []byte{1, 2, 3, 4, 5}, false, []byte{6, 7})
	f.Fuzz(func(t *testing.T, negA bool, p []byte, negB bool, q []byte) {
		a, b := read(new(big.Int).SetBytes(p).String()), read(new(big.Int).SetBytes(q).String())
		a.Neg, b.Neg = negA, negB
		x, y := bigOf(a), bigOf(b)
		if !equal(integer.Add(a, b), new(big.Int).Add(x, y)) || !equal(integer.Sub(a, b), new(big.Int).Sub(x, y)) || !equal(integer.Mul(a, b), new(big.Int).Mul(x, y)) {
			t.Fatal("Add, Sub or Mul", a, b)
		}
		if integer.Cmp(a, b) != x.Cmp(y) || integer.Print(a) != x.String() {
			t.Fatal("Cmp or Print", a, b)
		}
		quotient, rest, ok := integer.DivMod(a, b)
		if ok != (y.Sign() != 0) {
			t.Fatal("DivMod", a, b, ok)
		}
		if ok {
			wantQuotient, wantRest := floored(x, y)
			if !equal(quotient, wantQuotient) || !equal(rest, wantRest) {
				t.Fatal("DivMod", a, b, quotient, rest)
			}
		}
	})
}
