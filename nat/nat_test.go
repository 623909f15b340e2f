package nat_test

import (
	"fmt"
	"math"
	"math/big"
	"math/rand"
	"slices"
	"strings"
	"testing"

	"examboard/api"
	"examboard/nat"
)

const top = math.MaxUint32

// edges are limbs at which carries, borrows and estimates of a quotient change.
var edges = []uint32{0, 0, 1, 2, 3, 1<<16 - 1, 1 << 16, 1<<31 - 1, 1 << 31, 1<<31 + 1, top - 1, top, top}

// bigOf is the reference: it reads the limbs by the definition of their value.
func bigOf(a api.Nat) *big.Int {
	value := new(big.Int)
	for i := len(a) - 1; i >= 0; i-- {
		value.Lsh(value, 32).Or(value, new(big.Int).SetUint64(uint64(a[i])))
	}
	return value
}

func natOf(value *big.Int) api.Nat {
	var a api.Nat
	for rest := new(big.Int).Set(value); rest.Sign() > 0; rest.Rsh(rest, 32) {
		a = append(a, uint32(rest.Uint64()&top))
	}
	return a
}

// is tells whether a is exactly these limbs; nil and empty are the same.
func is(a api.Nat, limbs ...uint32) bool {
	return slices.Equal(a, limbs)
}

// equal tells whether a is the value, in normal form.
func equal(a api.Nat, value *big.Int) bool {
	return is(a, natOf(value)...)
}

// samples returns numbers of all lengths up to 9 limbs, of edge limbs and of
// random ones, some with high zero limbs, the same ones in every run.
func samples(seed int64, count int) []api.Nat {
	source := rand.New(rand.NewSource(seed))
	list := []api.Nat{nil, {}, {0}, {0, 0}, {1}, {1, 0}, {top}, {0, 1}, {top, top}, {0, 0, 1}, {top, top, top, top}}
	for range count {
		a := make(api.Nat, source.Intn(10))
		for i := range a {
			a[i] = source.Uint32()
			if source.Intn(2) == 0 {
				a[i] = edges[source.Intn(len(edges))]
			}
		}
		list = append(list, append(a, make(api.Nat, source.Intn(3)/2)...))
	}
	return list
}

func TestP1_1OfAndNorm(t *testing.T) {
	for _, c := range []struct {
		n    uint64
		want api.Nat
	}{
		{0, nil}, {1, api.Nat{1}}, {top, api.Nat{top}}, {1 << 32, api.Nat{0, 1}}, {1<<32 + 7, api.Nat{7, 1}},
		{1 << 63, api.Nat{0, 1 << 31}}, {math.MaxUint64, api.Nat{top, top}},
	} {
		if got := nat.Of(c.n); !is(got, c.want...) {
			t.Errorf("Of(%d): %v, expected %v", c.n, got, c.want)
		}
	}
	for _, c := range []struct{ a, want api.Nat }{
		{nil, nil}, {api.Nat{}, nil}, {api.Nat{0}, nil}, {api.Nat{0, 0, 0}, nil}, {api.Nat{7, 0, 0}, api.Nat{7}},
		{api.Nat{0, 7, 0}, api.Nat{0, 7}}, {api.Nat{0, 0, 7}, api.Nat{0, 0, 7}},
	} {
		if got := nat.Norm(c.a); !is(got, c.want...) {
			t.Errorf("Norm(%v): %v, expected %v", c.a, got, c.want)
		}
	}
}

func TestP1_1Cmp(t *testing.T) {
	// Each number is less than the next one.
	order := []api.Nat{nil, {1}, {2}, {top}, {0, 1}, {1, 1}, {top, 1}, {0, 2}, {top, top}, {0, 0, 1}, {0, 1, 1}, {0, 0, 2}}
	for i, a := range order {
		for j, b := range order {
			want := 0
			if i < j {
				want = -1
			} else if i > j {
				want = 1
			}
			if got := nat.Cmp(a, append(slices.Clone(b), 0, 0)); got != want {
				t.Errorf("Cmp(%v, %v): %d, expected %d", a, b, got, want)
			}
		}
	}
	if nat.Cmp(nil, api.Nat{0}) != 0 || nat.Cmp(api.Nat{0, 0}, api.Nat{}) != 0 {
		t.Error("zeros in two forms differ")
	}
}

func TestP1_1BitsAndUint(t *testing.T) {
	for _, a := range samples(1, 3000) {
		value := bigOf(a)
		if got := nat.Bits(a); got != value.BitLen() {
			t.Errorf("Bits(%v): %d, expected %d", a, got, value.BitLen())
		}
		n, ok := nat.Uint(a)
		if ok != value.IsUint64() || ok && n != value.Uint64() || !ok && n != 0 {
			t.Errorf("Uint(%v): %d, %v", a, n, ok)
		}
	}
	for n, want := range map[uint64]int{0: 0, 1: 1, 2: 2, 255: 8, 256: 9, top: 32, 1 << 32: 33, math.MaxUint64: 64} {
		if got := nat.Bits(nat.Of(n)); got != want {
			t.Errorf("Bits(%d): %d, expected %d", n, got, want)
		}
		if got, ok := nat.Uint(nat.Of(n)); got != n || !ok {
			t.Errorf("Uint(%d): %d, %v", n, got, ok)
		}
	}
	if n, ok := nat.Uint(api.Nat{9, 0, 0, 0}); n != 9 || !ok {
		t.Error("high zero limbs make a number too great for Uint")
	}
	for _, a := range []api.Nat{{0, 0, 1}, {5, 6, 7}, {0, 0, 0, 1, 0}} {
		if n, ok := nat.Uint(a); n != 0 || ok {
			t.Errorf("Uint(%v): %d, %v", a, n, ok)
		}
	}
}

func TestP1_2FixedValues(t *testing.T) {
	for _, c := range []struct{ a, b, sum, product api.Nat }{
		{nil, nil, nil, nil},
		{nil, api.Nat{5}, api.Nat{5}, nil},
		{api.Nat{0, 0}, api.Nat{5, 6}, api.Nat{5, 6}, nil},
		{api.Nat{top}, api.Nat{1}, api.Nat{0, 1}, api.Nat{top}},
		{api.Nat{top, top, top}, api.Nat{1}, api.Nat{0, 0, 0, 1}, api.Nat{top, top, top}},
		{api.Nat{top, top}, api.Nat{top, top}, api.Nat{top - 1, top, 1}, api.Nat{1, 0, top - 1, top}},
		{api.Nat{top}, api.Nat{top}, api.Nat{top - 1, 1}, api.Nat{1, top - 1}},
		{api.Nat{0, 1}, api.Nat{0, 0, 1}, api.Nat{0, 1, 1}, api.Nat{0, 0, 0, 1}},
	} {
		if got := nat.Add(c.a, c.b); !is(got, c.sum...) {
			t.Errorf("%v + %v: %v, expected %v", c.a, c.b, got, c.sum)
		}
		if got := nat.Mul(c.a, c.b); !is(got, c.product...) {
			t.Errorf("%v * %v: %v, expected %v", c.a, c.b, got, c.product)
		}
	}
	for _, c := range []struct {
		a, b, want api.Nat
		ok         bool
	}{
		{nil, nil, nil, true}, {api.Nat{5}, api.Nat{5, 0}, nil, true}, {api.Nat{3}, api.Nat{5}, nil, false},
		{nil, api.Nat{1}, nil, false}, {api.Nat{top, top}, api.Nat{0, 0, 1}, nil, false}, {api.Nat{0, 1}, api.Nat{1, 1}, nil, false},
		{api.Nat{5}, nil, api.Nat{5}, true}, {api.Nat{0, 0, 0, 1}, api.Nat{1}, api.Nat{top, top, top}, true},
		{api.Nat{0, 0, 1}, api.Nat{0, 1}, api.Nat{0, top}, true}, {api.Nat{1, 0, 1}, api.Nat{0, 0, 1}, api.Nat{1}, true},
		{api.Nat{0, 5, 9}, api.Nat{1, 5, 8}, api.Nat{top, top}, true},
	} {
		if got, ok := nat.Sub(c.a, c.b); !is(got, c.want...) || ok != c.ok {
			t.Errorf("%v - %v: %v, %v, expected %v, %v", c.a, c.b, got, ok, c.want, c.ok)
		}
	}
}

func TestP1_2AgainstReference(t *testing.T) {
	as, bs := samples(2, 4000), samples(3, 4000)
	for i, a := range as {
		b := bs[len(bs)-1-i]
		x, y := bigOf(a), bigOf(b)
		if got := nat.Add(a, b); !equal(got, new(big.Int).Add(x, y)) {
			t.Fatalf("%v + %v: %v", a, b, got)
		}
		if got := nat.Mul(a, b); !equal(got, new(big.Int).Mul(x, y)) {
			t.Fatalf("%v * %v: %v", a, b, got)
		}
		got, ok := nat.Sub(a, b)
		want := new(big.Int).Sub(x, y)
		if ok != (want.Sign() >= 0) || ok && !equal(got, want) || !ok && len(got) != 0 {
			t.Fatalf("%v - %v: %v, %v", a, b, got, ok)
		}
	}
}

func TestP1_3FixedQuotients(t *testing.T) {
	for _, c := range []struct{ a, b, quotient, rest api.Nat }{
		{nil, api.Nat{7}, nil, nil},
		{api.Nat{5, 0}, api.Nat{7}, nil, api.Nat{5}},
		{api.Nat{7}, api.Nat{7, 0}, api.Nat{1}, nil},
		{api.Nat{7, 8, 9}, api.Nat{1}, api.Nat{7, 8, 9}, nil},
		{api.Nat{0, 0, 1}, api.Nat{10}, api.Nat{2576980377, 429496729}, api.Nat{6}},
		{api.Nat{top, top}, api.Nat{top}, api.Nat{1, 1}, nil},
		{api.Nat{top, top}, api.Nat{0, 0, 1}, nil, api.Nat{top, top}},
		{api.Nat{5, 0, 1}, api.Nat{1, 1}, api.Nat{top}, api.Nat{6}},
		{api.Nat{0, 0, 0, 1}, api.Nat{0, 1}, api.Nat{0, 0, 1}, nil},
		// The first estimate of a limb of the quotient is too great here, so
		// that the divisor must be added back.
		{api.Nat{3, 0, 1 << 31}, api.Nat{1, 0, 1 << 29}, api.Nat{3}, api.Nat{0, 0, 1 << 29}},
		{api.Nat{0, 0, 1 << 15, 1<<15 - 1}, api.Nat{1, 0, 1 << 15}, api.Nat{0xfffe0000}, api.Nat{0x20000, top, 1<<15 - 1}},
		{api.Nat{0, 0, 1 << 31, 1<<31 - 1}, api.Nat{1, 0, 1 << 31}, api.Nat{top - 1}, api.Nat{2, top, 1<<31 - 1}},
		// The two highest limbs alone would give a quotient of more than a limb.
		{api.Nat{0, 0, 1 << 31}, api.Nat{top, 1 << 31}, api.Nat{top - 1}, api.Nat{top - 1, 2}},
	} {
		quotient, rest, ok := nat.DivMod(c.a, c.b)
		if !is(quotient, c.quotient...) || !is(rest, c.rest...) || !ok {
			t.Errorf("%v / %v: %v, %v, %v, expected %v, %v", c.a, c.b, quotient, rest, ok, c.quotient, c.rest)
		}
	}
	for _, a := range []api.Nat{nil, {0}, {5}, {1, 2, 3}} {
		for _, zero := range []api.Nat{nil, {}, {0}, {0, 0, 0}} {
			if quotient, rest, ok := nat.DivMod(a, zero); len(quotient) != 0 || len(rest) != 0 || ok {
				t.Errorf("%v / 0: %v, %v, %v", a, quotient, rest, ok)
			}
		}
	}
}

func TestP1_3AgainstReference(t *testing.T) {
	as, bs := samples(4, 30000), samples(5, 30000)
	for i, a := range as {
		b := bs[len(bs)-1-i]
		x, y := bigOf(a), bigOf(b)
		if got := nat.Gcd(a, b); !equal(got, new(big.Int).GCD(nil, nil, x, y)) {
			t.Fatalf("Gcd(%v, %v): %v", a, b, got)
		}
		if y.Sign() == 0 {
			continue
		}
		quotient, rest, ok := nat.DivMod(a, b)
		wantQuotient, wantRest := new(big.Int).QuoRem(x, y, new(big.Int))
		if !equal(quotient, wantQuotient) || !equal(rest, wantRest) || !ok {
			t.Fatalf("%v / %v: %v, %v, %v", a, b, quotient, rest, ok)
		}
	}
}

func TestP1_3Gcd(t *testing.T) {
	for _, c := range []struct{ a, b, want api.Nat }{
		{nil, nil, nil}, {api.Nat{0, 0}, api.Nat{0}, nil}, {nil, api.Nat{7, 0}, api.Nat{7}}, {api.Nat{7, 0}, nil, api.Nat{7}},
		{nil, api.Nat{1, 2, 3, 0}, api.Nat{1, 2, 3}}, {api.Nat{1, 2, 3, 0}, api.Nat{0}, api.Nat{1, 2, 3}},
		{api.Nat{12}, api.Nat{18}, api.Nat{6}}, {api.Nat{18}, api.Nat{12}, api.Nat{6}}, {api.Nat{1}, api.Nat{9, 9, 9}, api.Nat{1}},
		{api.Nat{0, 0, 1}, api.Nat{0, 3}, api.Nat{0, 1}}, {api.Nat{6, 6, 6, 6}, api.Nat{6, 6, 6, 6}, api.Nat{6, 6, 6, 6}},
		{api.Nat{0, 0, 0, 0, 1}, api.Nat{0, 0, 0, 3}, api.Nat{0, 0, 0, 1}}, {api.Nat{4}, api.Nat{0, 0, 0, 1}, api.Nat{4}},
	} {
		if got := nat.Gcd(c.a, c.b); !is(got, c.want...) {
			t.Errorf("Gcd(%v, %v): %v, expected %v", c.a, c.b, got, c.want)
		}
	}
}

func TestP1_4Pow(t *testing.T) {
	for _, a := range []api.Nat{nil, {0, 0}, {1}, {2}, {3, 0}, {10}, {top}, {0, 1}, {7, 5, 3}} {
		for _, n := range []int{0, 1, 2, 3, 4, 5, 7, 8, 31, 64, 100, 255, 256, 511, 512} {
			got, ok := nat.Pow(a, n)
			if !equal(got, new(big.Int).Exp(bigOf(a), big.NewInt(int64(n)), nil)) || !ok {
				t.Errorf("Pow(%v, %d): %v, %v", a, n, got, ok)
			}
		}
		for _, n := range []int{-1, -2, 513, 1024, math.MinInt, math.MaxInt} {
			if got, ok := nat.Pow(a, n); len(got) != 0 || ok {
				t.Errorf("Pow(%v, %d): %v, %v", a, n, got, ok)
			}
		}
	}
	if got, ok := nat.Pow(api.Nat{0}, 0); !is(got, 1) || !ok {
		t.Error("0 to the power 0", got, ok)
	}
	if got, ok := nat.Pow(api.Nat{2}, 64); !is(got, 0, 0, 1) || !ok {
		t.Error("2 to the power 64", got, ok)
	}
}

func TestP1_5Syntax(t *testing.T) {
	nines := strings.Repeat("9", 400)
	for s, want := range map[string]api.Errno{
		"0": api.OK, "7": api.OK, "10": api.OK, "4294967295": api.OK, "4294967296": api.OK, "18446744073709551616": api.OK,
		"999999999": api.OK, "1000000000": api.OK, "1000000000000000000": api.OK, nines: api.OK, "1" + strings.Repeat("0", 399): api.OK,
		"": api.ErrSyntax, "00": api.ErrSyntax, "007": api.ErrSyntax, "+7": api.ErrSyntax, "-7": api.ErrSyntax, "-0": api.ErrSyntax,
		" 7": api.ErrSyntax, "7 ": api.ErrSyntax, "7\n": api.ErrSyntax, "1_000": api.ErrSyntax, "1.0": api.ErrSyntax, "1e3": api.ErrSyntax,
		"0x1f": api.ErrSyntax, "12/3": api.ErrSyntax, "1:": api.ErrSyntax, "\x00": api.ErrSyntax, "1\xff": api.ErrSyntax, "٣": api.ErrSyntax,
		nines + "9": api.ErrTooLong, strings.Repeat(nines, 50): api.ErrTooLong,
		// A wrong byte and a leading zero come before the length.
		nines + "x": api.ErrSyntax, "0" + nines: api.ErrSyntax, nines + "9-": api.ErrSyntax, strings.Repeat("0", 401): api.ErrSyntax,
	} {
		got, e := nat.Parse(s)
		if e != want || e != api.OK && len(got) != 0 {
			t.Errorf("Parse(%.30q): %v, %d, expected %d", s, got, e, want)
		}
		if e == api.OK && nat.Print(got) != s {
			t.Errorf("Print of Parse(%.30q): %.30q", s, nat.Print(got))
		}
	}
}

func TestP1_5EveryLength(t *testing.T) {
	source := rand.New(rand.NewSource(6))
	for length := 1; length <= api.MaxDigits; length++ {
		digits := []byte(strings.Repeat("0", length))
		for i := range digits {
			digits[i] = byte('0' + source.Intn(10))
		}
		digits[0] = byte('1' + source.Intn(9))
		for _, s := range []string{string(digits), "1" + strings.Repeat("0", length-1), strings.Repeat("9", length)} {
			want, _ := new(big.Int).SetString(s, 10)
			got, e := nat.Parse(s)
			if e != api.OK || !equal(got, want) || nat.Print(got) != s {
				t.Fatalf("Parse(%q): %v, %d", s, got, e)
			}
		}
	}
}

func TestP1_5Print(t *testing.T) {
	for _, a := range samples(7, 3000) {
		s := nat.Print(a)
		if s != bigOf(a).String() {
			t.Fatalf("Print(%v): %s", a, s)
		}
		if got, e := nat.Parse(s); e != api.OK || !equal(got, bigOf(a)) {
			t.Fatalf("Parse(%q): %v, %d", s, got, e)
		}
	}
	power, _ := nat.Pow(api.Nat{10}, 512)
	if got := nat.Print(power); got != "1"+strings.Repeat("0", 512) {
		t.Error("a number of 513 digits", got)
	}
	if got := nat.Print(nat.Mul(power, power)); got != "1"+strings.Repeat("0", 1024) {
		t.Error("a number of 1025 digits", got)
	}
}

func TestP1_6Laws(t *testing.T) {
	as, bs, cs := samples(8, 3000), samples(9, 3000), samples(10, 3000)
	for i, a := range as {
		b, c := bs[len(bs)-1-i], cs[(7*i)%len(cs)]
		laws := []struct {
			name        string
			left, right api.Nat
		}{
			{"a + b = b + a", nat.Add(a, b), nat.Add(b, a)},
			{"a b = b a", nat.Mul(a, b), nat.Mul(b, a)},
			{"(a + b) + c = a + (b + c)", nat.Add(nat.Add(a, b), c), nat.Add(a, nat.Add(b, c))},
			{"(a b) c = a (b c)", nat.Mul(nat.Mul(a, b), c), nat.Mul(a, nat.Mul(b, c))},
			{"a (b + c) = a b + a c", nat.Mul(a, nat.Add(b, c)), nat.Add(nat.Mul(a, b), nat.Mul(a, c))},
		}
		for _, law := range laws {
			if !slices.Equal(law.left, law.right) {
				t.Fatalf("%s: %v, %v, %v", law.name, a, b, c)
			}
		}
		if back, ok := nat.Sub(nat.Add(a, b), b); !ok || nat.Cmp(back, a) != 0 {
			t.Fatalf("(a + b) - b: %v, %v", a, b)
		}
		if quotient, rest, ok := nat.DivMod(a, b); ok && (nat.Cmp(rest, b) >= 0 || nat.Cmp(nat.Add(nat.Mul(quotient, b), rest), a) != 0) {
			t.Fatalf("a = q b + r: %v, %v: %v, %v", a, b, quotient, rest)
		}
	}
}

func TestP1_7GcdOfMultiples(t *testing.T) {
	as, bs, cs := samples(11, 3000), samples(12, 3000), samples(13, 3000)
	for i, a := range as {
		b, c := bs[len(bs)-1-i], cs[(7*i)%len(cs)]
		divisor := nat.Gcd(a, b)
		if got := nat.Gcd(nat.Mul(a, c), nat.Mul(b, c)); nat.Cmp(got, nat.Mul(c, divisor)) != 0 {
			t.Fatalf("Gcd(a c, b c) = c Gcd(a, b): %v, %v, %v: %v", a, b, c, got)
		}
		for _, number := range []api.Nat{a, b} {
			if _, rest, ok := nat.DivMod(number, divisor); ok && len(rest) != 0 {
				t.Fatalf("Gcd(%v, %v) = %v does not divide %v", a, b, divisor, number)
			}
		}
	}
}

// all writes down what every function answers for the two numbers.
func all(a, b api.Nat, n int) string {
	difference, less := nat.Sub(a, b)
	quotient, rest, divided := nat.DivMod(a, b)
	power, inRange := nat.Pow(a, n)
	word, small := nat.Uint(a)
	return fmt.Sprintln(nat.Norm(a), nat.Cmp(a, b), nat.Add(a, b), difference, less, nat.Mul(a, b), quotient, rest, divided,
		nat.Gcd(a, b), power, inRange, nat.Bits(a), word, small, nat.Print(a))
}

func TestP1_8HighZeroLimbs(t *testing.T) {
	as, bs := samples(14, 500), samples(15, 500)
	for i, a := range as {
		b := bs[len(bs)-1-i]
		x, y := natOf(bigOf(a)), natOf(bigOf(b))
		want := all(x, y, i%8)
		for _, zeros := range []int{1, 2, 5} {
			x0, y0 := append(slices.Clone(x), make(api.Nat, zeros)...), append(slices.Clone(y), make(api.Nat, zeros)...)
			for _, got := range []string{all(x0, y, i%8), all(x, y0, i%8), all(x0, y0, i%8)} {
				if got != want {
					t.Fatalf("%v, %v with %d high zero limbs: %s, expected %s", x, y, zeros, got, want)
				}
			}
		}
	}
}

// results returns every number that the functions return for the two numbers.
func results(a, b api.Nat) []api.Nat {
	difference, _ := nat.Sub(a, b)
	quotient, rest, _ := nat.DivMod(a, b)
	zeroth, _ := nat.Pow(a, 0)
	first, _ := nat.Pow(a, 1)
	third, _ := nat.Pow(a, 3)
	return []api.Nat{nat.Norm(a), nat.Add(a, b), difference, nat.Mul(a, b), quotient, rest, nat.Gcd(a, b), zeroth, first, third}
}

// overwrite changes all the memory of a number, its spare capacity too.
func overwrite(a api.Nat) {
	for i := range a[:cap(a)] {
		a[:cap(a)][i] = 0xdeadbeef
	}
}

func TestP2ArgumentsAndResultsAreApart(t *testing.T) {
	numbers := []api.Nat{nil, {0}, {1}, {2}, {5, 0}, {1, 1}, {5, 0, 1}, {0, 0, 1}, {3, 0, 1 << 31}, {1, 0, 1 << 29}, {top, top, top, 0}}
	for _, x := range numbers {
		for _, y := range numbers {
			// The arguments are parts of longer slices, whose rest must not change either.
			a, b := append(slices.Clone(x), 77, 78)[:len(x)], append(slices.Clone(y), 77, 78)[:len(y)]
			list := results(a, b)
			if !slices.Equal(a, x) || !slices.Equal(b, y) || !is(a[len(x):len(x)+2], 77, 78) || !is(b[len(y):len(y)+2], 77, 78) {
				t.Fatalf("an argument was modified: %v, %v", x, y)
			}
			want := results(slices.Clone(x), slices.Clone(y))
			overwrite(a)
			overwrite(b)
			for i := range list {
				if !slices.Equal(list[i], want[i]) {
					t.Fatalf("result %d for %v, %v shares memory with an argument or a result", i, x, y)
				}
				overwrite(list[i])
			}
		}
	}
}

func TestExamplesOfTheChapter(t *testing.T) {
	number, e := nat.Parse("18446744073709551616")
	if !is(number, 0, 0, 1) || e != api.OK || nat.Print(number) != "18446744073709551616" || nat.Bits(number) != 65 {
		t.Error("2^64", number, e)
	}
	quotient, rest, _ := nat.DivMod(number, api.Nat{10})
	if nat.Print(quotient) != "1844674407370955161" || nat.Print(rest) != "6" {
		t.Error("2^64 / 10", quotient, rest)
	}
	if got := nat.Print(nat.Mul(nat.Of(1000000007), nat.Of(998244353))); got != "998244359987710471" {
		t.Error("1000000007 * 998244353", got)
	}
}

func FuzzAgainstReference(f *testing.F) {
	f.Add([]byte{1, 2, 3, 4, 5}, []byte{6, 7})
	f.Fuzz(func(t *testing.T, p, q []byte) {
		x, y := new(big.Int).SetBytes(p), new(big.Int).SetBytes(q)
		a, b := natOf(x), natOf(y)
		if !equal(nat.Mul(a, b), new(big.Int).Mul(x, y)) || !equal(nat.Gcd(a, b), new(big.Int).GCD(nil, nil, x, y)) || nat.Print(a) != x.String() {
			t.Fatal("Mul, Gcd or Print", a, b)
		}
		quotient, rest, ok := nat.DivMod(a, b)
		if ok != (y.Sign() > 0) {
			t.Fatal("DivMod", a, b, ok)
		}
		if ok && (!equal(quotient, new(big.Int).Quo(x, y)) || !equal(rest, new(big.Int).Rem(x, y))) {
			t.Fatal("DivMod", a, b, quotient, rest)
		}
	})
}
