package decimal_test

import (
	"math"
	"math/big"
	"math/rand"
	"regexp"
	"slices"
	"strings"
	"testing"

	"examboard/api"
	"examboard/decimal"
	"examboard/integer"
	"examboard/nat"
	"examboard/ratio"
)

var (
	modes       = []int{api.HalfEven, api.HalfUp, api.HalfDown, api.Away, api.Toward, api.Floor, api.Ceil}
	wrongModes  = []int{0, 8, -1, 9, math.MinInt, math.MaxInt}
	wrongPlaces = []int{-1, 10, -9, 11, math.MinInt, math.MaxInt}
)

// read makes a ratio of a notation as ratio.Parse reads it.
func read(s string) api.Ratio {
	r, e := ratio.Parse(s)
	if e != api.OK {
		panic(s)
	}
	return r
}

func readInt(s string) api.Int {
	n, e := integer.Parse(s)
	if e != api.OK {
		panic(s)
	}
	return n
}

// decimalOf makes a decimal of the notation of its units.
func decimalOf(units string, places int) api.Decimal {
	return api.Decimal{Units: readInt(units), Places: places}
}

// high returns the integer with high zero limbs, and 0 with a minus sign too.
func high(a api.Int) api.Int {
	return api.Int{Neg: a.Neg || len(a.Mag) == 0, Mag: append(slices.Clone(a.Mag), 0, 0)}
}

// forms returns the same number in other forms: with high zero limbs, not in
// lowest terms, and both; 0 also with a denominator of 0.
func forms(r api.Ratio) []api.Ratio {
	three := nat.Of(3)
	tripled := api.Ratio{Num: api.Int{Neg: r.Num.Neg, Mag: nat.Mul(r.Num.Mag, three)}, Den: nat.Mul(r.Den, three)}
	list := []api.Ratio{r, {Num: high(r.Num), Den: r.Den}, {Num: r.Num, Den: append(slices.Clone(r.Den), 0)}, tripled, {Num: high(tripled.Num), Den: append(tripled.Den, 0, 0)}}
	if len(r.Num.Mag) == 0 {
		for _, num := range []string{"0", "5", "-5", "-18446744073709551616"} {
			list = append(list, api.Ratio{Num: readInt(num)}, api.Ratio{Num: high(readInt(num)), Den: api.Nat{0, 0}})
		}
	}
	return list
}

func sameInt(a, b api.Int) bool {
	return a.Neg == b.Neg && slices.Equal(a.Mag, b.Mag)
}

// isInt tells whether a is, in normal form, the integer with this notation.
func isInt(a api.Int, s string) bool {
	return sameInt(a, integer.Norm(a)) && integer.Print(a) == s
}

// is tells whether d has these units, in normal form, and these places.
func is(d api.Decimal, units string, places int) bool {
	return isInt(d.Units, units) && d.Places == places
}

// isNothing tells whether d is the zero value; nil and empty are the same.
func isNothing(d api.Decimal) bool {
	return !d.Units.Neg && len(d.Units.Mag) == 0 && d.Places == 0
}

func same(a, b api.Decimal) bool {
	return sameInt(a.Units, b.Units) && a.Places == b.Places
}

func bigOf(r api.Ratio) *big.Rat {
	x, ok := new(big.Rat).SetString(ratio.Print(r))
	if !ok {
		panic("ratio.Print")
	}
	return x
}

func bigInt(a api.Int) *big.Int {
	x, ok := new(big.Int).SetString(integer.Print(a), 10)
	if !ok {
		panic("integer.Print")
	}
	return x
}

func power(places int) *big.Int {
	return new(big.Int).Exp(big.NewInt(10), big.NewInt(int64(places)), nil)
}

// valueOf reads a decimal by the definition of its value.
func valueOf(d api.Decimal) *big.Rat {
	return new(big.Rat).SetFrac(bigInt(d.Units), power(d.Places))
}

// choose is the reference: it finds the two neighbors and chooses by the words of the chapter.
func choose(x *big.Rat, places, mode int) *big.Int {
	scaled := new(big.Rat).Mul(x, new(big.Rat).SetInt(power(places)))
	lower := new(big.Int).Div(scaled.Num(), scaled.Denom())
	if scaled.IsInt() {
		return lower
	}
	higher := new(big.Int).Add(lower, big.NewInt(1))
	smaller, greater := lower, higher
	if lower.CmpAbs(higher) > 0 {
		smaller, greater = higher, lower
	}
	switch mode {
	case api.Floor:
		return lower
	case api.Ceil:
		return higher
	case api.Toward:
		return smaller
	case api.Away:
		return greater
	}
	fromLower := new(big.Rat).Sub(scaled, new(big.Rat).SetInt(lower))
	fromHigher := new(big.Rat).Sub(new(big.Rat).SetInt(higher), scaled)
	switch order := fromLower.Cmp(fromHigher); {
	case order < 0:
		return lower
	case order > 0:
		return higher
	case mode == api.HalfUp:
		return greater
	case mode == api.HalfDown:
		return smaller
	case lower.Bit(0) == 0:
		return lower
	}
	return higher
}

// around returns numbers at, half way between, and closely beside decimal
// numbers with so many places, of both signs.
func around(places int) []api.Ratio {
	parts := []string{"0", "1/2", "1/3", "2/3", "1/340282366920938463463374607431768211456", "170141183460469231731687303715884105729/340282366920938463463374607431768211456", "170141183460469231731687303715884105727/340282366920938463463374607431768211456"}
	unit := api.Ratio{Num: readInt("1"), Den: natPower(places)}
	var list []api.Ratio
	for _, units := range []string{"0", "1", "2", "7", "8", "9", "10", "99", "4294967295", "4294967296", "18446744073709551615", "79228162514264337593543950335", "79228162514264337593543950336"} {
		for _, part := range parts {
			r := ratio.Mul(ratio.Add(read(units), read(part)), unit)
			list = append(list, r, ratio.Neg(r))
		}
	}
	return list
}

func natPower(places int) api.Nat {
	n, ok := nat.Pow(nat.Of(10), places)
	if !ok {
		panic(places)
	}
	return n
}

// random returns ratios of both signs, the same ones in every run, many of
// them not in lowest terms, with high zero limbs or with a denominator of 0.
func random(seed int64, count int) []api.Ratio {
	source := rand.New(rand.NewSource(seed))
	limbs := func(length int) api.Nat {
		a := make(api.Nat, length)
		for i := range a {
			a[i] = source.Uint32() >> source.Intn(32)
		}
		return append(a, make(api.Nat, source.Intn(4)/2)...)
	}
	var list []api.Ratio
	for range count {
		num := api.Int{Neg: source.Intn(2) == 0, Mag: limbs(source.Intn(6))}
		list = append(list, api.Ratio{Num: num, Den: limbs(source.Intn(4))})
	}
	return list
}

// every calls check with numbers, all places and all modes, and the rounded number.
func every(t *testing.T, seed int64, check func(r api.Ratio, places, mode int, d api.Decimal)) {
	t.Helper()
	for places := 0; places <= api.MaxPlaces; places++ {
		for _, r := range append(around(places), random(seed+int64(places), 100)...) {
			for _, mode := range modes {
				d, e := decimal.Round(r, places, mode)
				if e != api.OK {
					t.Fatalf("Round(%v, %d, %d): error %d", r, places, mode, e)
				}
				check(r, places, mode, d)
			}
		}
	}
}

// roundings are numbers, the places, and their units in each of the modes.
var roundings = []struct {
	number string
	places int
	want   string
}{
	// Half way, above an even and above an odd lower neighbor.
	{"5/2", 0, "2 3 2 3 2 2 3"}, {"-5/2", 0, "-2 -3 -2 -3 -2 -3 -2"},
	{"7/2", 0, "4 4 3 4 3 3 4"}, {"-7/2", 0, "-4 -4 -3 -4 -3 -4 -3"},
	{"1/2", 0, "0 1 0 1 0 0 1"}, {"-1/2", 0, "0 -1 0 -1 0 -1 0"},
	{"3/2", 0, "2 2 1 2 1 1 2"}, {"-3/2", 0, "-2 -2 -1 -2 -1 -2 -1"},
	{"1/8", 2, "12 13 12 13 12 12 13"}, {"-1/8", 2, "-12 -13 -12 -13 -12 -13 -12"},
	{"3/8", 2, "38 38 37 38 37 37 38"}, {"-3/8", 2, "-38 -38 -37 -38 -37 -38 -37"},
	{"19/2", 0, "10 10 9 10 9 9 10"}, {"-19/2", 0, "-10 -10 -9 -10 -9 -10 -9"},
	{"1/2000000000", 9, "0 1 0 1 0 0 1"}, {"-1/2000000000", 9, "0 -1 0 -1 0 -1 0"},
	{"-3/2000000000", 9, "-2 -2 -1 -2 -1 -2 -1"},
	{"8589934591/2", 0, "4294967296 4294967296 4294967295 4294967296 4294967295 4294967295 4294967296"},
	{"-8589934593/2", 0, "-4294967296 -4294967297 -4294967296 -4294967297 -4294967296 -4294967297 -4294967296"},
	// Nearer to one of the neighbors.
	{"7/3", 0, "2 2 2 3 2 2 3"}, {"-7/3", 0, "-2 -2 -2 -3 -2 -3 -2"},
	{"8/3", 0, "3 3 3 3 2 2 3"}, {"-8/3", 0, "-3 -3 -3 -3 -2 -3 -2"},
	{"2/3", 3, "667 667 667 667 666 666 667"}, {"-2/3", 3, "-667 -667 -667 -667 -666 -667 -666"},
	{"1/3", 9, "333333333 333333333 333333333 333333334 333333333 333333333 333333334"},
	{"-1/3", 9, "-333333333 -333333333 -333333333 -333333334 -333333333 -333333334 -333333333"},
	{"2499/1000", 0, "2 2 2 3 2 2 3"}, {"2501/1000", 0, "3 3 3 3 2 2 3"}, {"3499/1000", 0, "3 3 3 4 3 3 4"}, {"3501/1000", 0, "4 4 4 4 3 3 4"},
	{"-2499/1000", 0, "-2 -2 -2 -3 -2 -3 -2"}, {"-2501/1000", 0, "-3 -3 -3 -3 -2 -3 -2"},
	{"1/1000", 2, "0 0 0 1 0 0 1"}, {"-1/1000", 2, "0 0 0 -1 0 -1 0"}, {"9/1000", 2, "1 1 1 1 0 0 1"}, {"-9/1000", 2, "-1 -1 -1 -1 0 -1 0"},
	{"-1/18446744073709551616", 9, "0 0 0 -1 0 -1 0"}, {"999/1000", 2, "100 100 100 100 99 99 100"},
	// Exactly a decimal number with these places.
	{"0", 0, "0 0 0 0 0 0 0"}, {"0", 9, "0 0 0 0 0 0 0"}, {"3", 0, "3 3 3 3 3 3 3"}, {"-3", 0, "-3 -3 -3 -3 -3 -3 -3"},
	{"7", 1, "70 70 70 70 70 70 70"}, {"-7", 9, "-7000000000 -7000000000 -7000000000 -7000000000 -7000000000 -7000000000 -7000000000"},
	{"1/8", 3, "125 125 125 125 125 125 125"}, {"-1/8", 3, "-125 -125 -125 -125 -125 -125 -125"}, {"5/2", 1, "25 25 25 25 25 25 25"},
	{"-1/1000000000", 9, "-1 -1 -1 -1 -1 -1 -1"}, {"18446744073709551616", 0, strings.Repeat("18446744073709551616 ", 6) + "18446744073709551616"},
}

func TestP4_1RoundInEveryMode(t *testing.T) {
	for _, c := range roundings {
		units := strings.Fields(c.want)
		for _, r := range forms(read(c.number)) {
			for i, mode := range modes {
				if d, e := decimal.Round(r, c.places, mode); !is(d, units[i], c.places) || e != api.OK {
					t.Errorf("Round(%s as %v, %d, %d): %v, %d, expected %s", c.number, r, c.places, mode, d, e, units[i])
				}
			}
		}
	}
}

func TestP4_1RoundAgainstReference(t *testing.T) {
	every(t, 1, func(r api.Ratio, places, mode int, d api.Decimal) {
		if want := choose(bigOf(r), places, mode).String(); !is(d, want, places) {
			t.Fatalf("Round(%s, %d, %d): %v, expected %s", ratio.Print(r), places, mode, d, want)
		}
	})
}

func TestP4_1RoundErrors(t *testing.T) {
	check := func(r api.Ratio, places, mode int, want api.Errno) {
		if d, e := decimal.Round(r, places, mode); e != want || !isNothing(d) {
			t.Errorf("Round(%v, %d, %d): %v, %d, expected %d", r, places, mode, d, e, want)
		}
	}
	for _, r := range []api.Ratio{read("1/2"), read("-7"), read("0"), {}, {Num: readInt("-5")}} {
		for _, places := range wrongPlaces {
			for _, mode := range slices.Concat(modes, wrongModes) {
				check(r, places, mode, api.ErrRange)
			}
		}
		for places := 0; places <= api.MaxPlaces; places++ {
			for _, mode := range wrongModes {
				check(r, places, mode, api.ErrInvalid)
			}
		}
	}
}

func TestP4_1Integer(t *testing.T) {
	for _, c := range roundings {
		if c.places != 0 {
			continue
		}
		units := strings.Fields(c.want)
		for _, r := range forms(read(c.number)) {
			for i, mode := range modes {
				if n, e := decimal.Integer(r, mode); !isInt(n, units[i]) || e != api.OK {
					t.Errorf("Integer(%s as %v, %d): %v, %d, expected %s", c.number, r, mode, n, e, units[i])
				}
			}
		}
	}
	for _, r := range append(around(0), random(20, 200)...) {
		for _, mode := range modes {
			if n, e := decimal.Integer(r, mode); !isInt(n, choose(bigOf(r), 0, mode).String()) || e != api.OK {
				t.Fatalf("Integer(%s, %d): %v, %d", ratio.Print(r), mode, n, e)
			}
		}
	}
	for _, r := range []api.Ratio{read("7/3"), read("-7"), read("0"), {}} {
		for _, mode := range wrongModes {
			if n, e := decimal.Integer(r, mode); e != api.ErrInvalid || n.Neg || len(n.Mag) != 0 {
				t.Errorf("Integer(%v, %d): %v, %d", r, mode, n, e)
			}
		}
	}
}

func TestP4_2Value(t *testing.T) {
	for _, c := range []struct {
		units  string
		places int
		want   string
	}{
		{"250", 2, "5/2"}, {"-250", 2, "-5/2"}, {"0", 0, "0"}, {"0", 9, "0"}, {"7", 0, "7"}, {"-7", 0, "-7"}, {"1", 9, "1/1000000000"}, {"-1", 9, "-1/1000000000"},
		{"5", 1, "1/2"}, {"10", 1, "1"}, {"-3", 3, "-3/1000"}, {"1000000000", 9, "1"}, {"18446744073709551616", 9, "36028797018963968/1953125"}, {"-18446744073709551616", 0, "-18446744073709551616"},
	} {
		for _, units := range []api.Int{readInt(c.units), high(readInt(c.units))} {
			r, e := decimal.Value(api.Decimal{Units: units, Places: c.places})
			if want := read(c.want); !sameInt(r.Num, want.Num) || !slices.Equal(r.Den, want.Den) || e != api.OK {
				t.Errorf("Value of %v with %d places: %v, %d, expected %s", units, c.places, r, e, c.want)
			}
		}
	}
	for _, places := range wrongPlaces {
		for _, units := range []string{"0", "5", "-18446744073709551616"} {
			if r, e := decimal.Value(decimalOf(units, places)); e != api.ErrRange || r.Num.Neg || len(r.Num.Mag) != 0 || len(r.Den) != 0 {
				t.Errorf("Value of %s with %d places: %v, %d", units, places, r, e)
			}
		}
	}
	for i, r := range random(30, 300) {
		d := api.Decimal{Units: r.Num, Places: i % 10}
		got, e := decimal.Value(d)
		if e != api.OK || bigOf(got).Cmp(valueOf(d)) != 0 || !slices.Equal(got.Den, ratio.Norm(got).Den) || !sameInt(got.Num, ratio.Norm(got).Num) {
			t.Fatalf("Value(%v): %v, %d", d, got, e)
		}
	}
}

func TestP4_2Rescale(t *testing.T) {
	for _, c := range []struct {
		units      string
		from, to   int
		wantByMode string
	}{
		{"125", 2, 1, "12 13 12 13 12 12 13"}, {"-125", 2, 1, "-12 -13 -12 -13 -12 -13 -12"}, {"135", 2, 1, "14 14 13 14 13 13 14"}, {"124", 2, 1, "12 12 12 13 12 12 13"}, {"126", 2, 1, "13 13 13 13 12 12 13"},
		{"125", 2, 3, "1250 1250 1250 1250 1250 1250 1250"}, {"125", 2, 2, "125 125 125 125 125 125 125"}, {"-125", 2, 9, strings.Repeat("-1250000000 ", 7)}, {"-125", 2, 0, "-1 -1 -1 -2 -1 -2 -1"},
		{"120", 2, 1, "12 12 12 12 12 12 12"}, {"0", 0, 9, "0 0 0 0 0 0 0"}, {"0", 9, 0, "0 0 0 0 0 0 0"}, {"-4", 1, 0, "0 0 0 -1 0 -1 0"}, {"-5", 1, 0, "0 -1 0 -1 0 -1 0"},
		{"1", 9, 0, "0 0 0 1 0 0 1"}, {"-1", 9, 8, "0 0 0 -1 0 -1 0"}, {"7", 0, 0, "7 7 7 7 7 7 7"}, {"7", 0, 9, strings.Repeat("7000000000 ", 7)}, {"499999999", 9, 0, "0 0 0 1 0 0 1"}, {"500000001", 9, 0, "1 1 1 1 0 0 1"},
	} {
		want := strings.Fields(c.wantByMode)
		for _, units := range []api.Int{readInt(c.units), high(readInt(c.units))} {
			for i, mode := range modes {
				if d, e := decimal.Rescale(api.Decimal{Units: units, Places: c.from}, c.to, mode); !is(d, want[i], c.to) || e != api.OK {
					t.Errorf("%v with %d places rescaled to %d, mode %d: %v, %d, expected %s", units, c.from, c.to, mode, d, e, want[i])
				}
			}
		}
	}
	for i, r := range random(31, 500) {
		d := api.Decimal{Units: r.Num, Places: i % 10}
		for places := 0; places <= api.MaxPlaces; places++ {
			mode := modes[(i+places)%len(modes)]
			if got, e := decimal.Rescale(d, places, mode); !is(got, choose(valueOf(d), places, mode).String(), places) || e != api.OK {
				t.Fatalf("Rescale(%v, %d, %d): %v, %d", d, places, mode, got, e)
			}
		}
	}
}

func TestP4_2RescaleErrors(t *testing.T) {
	check := func(d api.Decimal, places, mode int, want api.Errno) {
		if got, e := decimal.Rescale(d, places, mode); e != want || !isNothing(got) {
			t.Errorf("Rescale(%v, %d, %d): %v, %d, expected %d", d, places, mode, got, e, want)
		}
	}
	for _, wrong := range wrongPlaces {
		for _, right := range []int{0, 1, 9} {
			for _, mode := range slices.Concat(modes, wrongModes) {
				check(decimalOf("5", wrong), right, mode, api.ErrRange)
				check(decimalOf("-5", right), wrong, mode, api.ErrRange)
				check(decimalOf("0", wrong), wrong, mode, api.ErrRange)
			}
		}
	}
	for _, places := range []int{0, 1, 9} {
		for _, mode := range wrongModes {
			check(decimalOf("5", 1), places, mode, api.ErrInvalid)
			check(decimalOf("0", 0), places, mode, api.ErrInvalid)
			check(decimalOf("-5", 9), places, mode, api.ErrInvalid)
		}
	}
}

func TestP4_2Print(t *testing.T) {
	for _, c := range []struct {
		units  string
		places int
		want   string
	}{
		{"0", 0, "0"}, {"0", 1, "0.0"}, {"0", 9, "0.000000000"}, {"7", 0, "7"}, {"-7", 0, "-7"}, {"7", 1, "0.7"}, {"-7", 1, "-0.7"}, {"-5", 3, "-0.005"}, {"5", 3, "0.005"},
		{"1", 9, "0.000000001"}, {"-1", 9, "-0.000000001"}, {"123", 2, "1.23"}, {"123", 3, "0.123"}, {"123", 4, "0.0123"}, {"-123", 3, "-0.123"}, {"-123", 2, "-1.23"},
		{"100", 2, "1.00"}, {"-100", 1, "-10.0"}, {"999999999", 9, "0.999999999"}, {"1000000000", 9, "1.000000000"}, {"-1000000001", 9, "-1.000000001"}, {"4294967296", 9, "4.294967296"}, {"18446744073709551616", 0, "18446744073709551616"},
	} {
		for _, units := range []api.Int{readInt(c.units), high(readInt(c.units))} {
			if s, e := decimal.Print(api.Decimal{Units: units, Places: c.places}); s != c.want || e != api.OK {
				t.Errorf("Print of %v with %d places: %q, %d, expected %q", units, c.places, s, e, c.want)
			}
		}
	}
	for _, places := range wrongPlaces {
		for _, units := range []string{"0", "5", "-18446744073709551616"} {
			if s, e := decimal.Print(decimalOf(units, places)); e != api.ErrRange || s != "" {
				t.Errorf("Print of %s with %d places: %q, %d", units, places, s, e)
			}
		}
	}
}

func TestP4_2PrintHasNoLimit(t *testing.T) {
	long, _ := nat.Pow(nat.Of(10), api.MaxPower)
	long = nat.Mul(long, long)
	for places := 0; places <= api.MaxPlaces; places++ {
		before, after := "1"+strings.Repeat("0", 2*api.MaxPower-places), strings.Repeat("0", places)
		want := "-" + before
		if places > 0 {
			want += "." + after
		}
		if s, e := decimal.Print(api.Decimal{Units: api.Int{Neg: true, Mag: long}, Places: places}); s != want || e != api.OK {
			t.Errorf("Print of -10^1024 with %d places: %d bytes, %d", places, len(s), e)
		}
	}
	for i, r := range random(32, 2000) {
		d := api.Decimal{Units: r.Num, Places: i % 10}
		if s, e := decimal.Print(d); s != valueOf(d).FloatString(d.Places) || e != api.OK {
			t.Fatalf("Print(%v): %q, %d", d, s, e)
		}
	}
}

func TestP4_3ParseNumbers(t *testing.T) {
	for _, c := range []struct {
		s, units string
		places   int
	}{
		{"0", "0", 0}, {"0.0", "0", 1}, {"0.000000000", "0", 9}, {"7", "7", 0}, {"-7", "-7", 0}, {"10", "10", 0}, {"100.00", "10000", 2}, {"-0.50", "-50", 2}, {"0.5", "5", 1}, {"0.05", "5", 2},
		{"-0.05", "-5", 2}, {"12.340", "12340", 3}, {"-12.34", "-1234", 2}, {"1.000000000", "1000000000", 9}, {"-0.000000001", "-1", 9}, {"0.123456789", "123456789", 9}, {"9.999999999", "9999999999", 9},
		{"-18446744073709551616.5", "-184467440737095516165", 1}, {"4294967295.999999999", "4294967295999999999", 9}, {"1.01", "101", 2}, {"-1.10", "-110", 2}, {"20.02", "2002", 2},
	} {
		if d, e := decimal.Parse(c.s); !is(d, c.units, c.places) || e != api.OK {
			t.Errorf("Parse(%q): %v, %d, expected %s with %d places", c.s, d, e, c.units, c.places)
		}
	}
}

func TestP4_3ParseRejects(t *testing.T) {
	for _, s := range []string{
		"", "-", "+", ".", "-.", "..", "1.", "-1.", ".5", "-.5", "0.", ".0", "1..2", "1.2.3", "1.2.", ".1.2", "00", "00.5", "01", "01.5", "-01", "-00.5", "007", "+1", "+0", "+1.5", "-+1", "+-1", "--1", "1-", "1.-5", "1.+5", "0.-0", "1-1",
		"-0", "-0.0", "-0.00", "-0.000000000", " 1", "1 ", "1 .5", "1. 5", "1.5 ", "\t1", "1\n", "1.5\n", "1\x00", "1.\x00", "1,5", "1e3", "1.5e3", "1E3", "0x1", "0x1.8", "1_000", "1.0_0", "1/2", "a", "a.5", "1.a", "1.5a", "NaN", "Inf", "-Inf",
		"\u0661", "1.\u0665", "\u22121", "1\u00b75", "1\xff", "1.\xff", "\uff11", "0:5", "1.:", "1./", "1.5:", "/", ":",
	} {
		if d, e := decimal.Parse(s); e != api.ErrSyntax || !isNothing(d) {
			t.Errorf("Parse(%q): %v, %d", s, d, e)
		}
	}
}

func TestP4_3ParseLengthsAndOrderOfErrors(t *testing.T) {
	whole := strings.Repeat("9", api.MaxDigits)
	long, nine, ten := whole+"9", "012345678", "0123456789"
	for _, c := range []struct {
		s    string
		want api.Errno
	}{
		{whole, api.OK}, {"-" + whole, api.OK}, {whole + ".5", api.OK}, {whole + "." + nine, api.OK}, {"-" + whole + "." + nine, api.OK}, {"1" + whole[1:] + ".000000000", api.OK}, {"0." + nine, api.OK}, {"-0." + nine, api.OK},
		{long, api.ErrTooLong}, {"-" + long, api.ErrTooLong}, {long + ".5", api.ErrTooLong}, {"1" + strings.Repeat("0", api.MaxDigits), api.ErrTooLong}, {"0." + ten, api.ErrTooLong}, {"-0." + ten, api.ErrTooLong}, {"7." + ten, api.ErrTooLong},
		{"0.0000000000", api.ErrTooLong}, {"0.0000000001", api.ErrTooLong}, {"-0.0000000001", api.ErrTooLong}, {"-1.0000000000", api.ErrTooLong}, {whole + "." + ten, api.ErrTooLong}, {long + "." + ten, api.ErrTooLong}, {"1." + long, api.ErrTooLong}, {"-" + long + "." + long, api.ErrTooLong},
		// A wrong form comes before the lengths, wherever it is.
		{"-0.0000000000", api.ErrSyntax}, {"-0." + strings.Repeat("0", 500), api.ErrSyntax}, {"0" + whole, api.ErrSyntax}, {"0" + long, api.ErrSyntax}, {strings.Repeat("0", 401), api.ErrSyntax}, {"+" + long, api.ErrSyntax}, {"--" + long, api.ErrSyntax},
		{long + ".", api.ErrSyntax}, {long + ".x", api.ErrSyntax}, {long + ".5x", api.ErrSyntax}, {long + ".5.5", api.ErrSyntax}, {long + "x", api.ErrSyntax}, {long + "x.5", api.ErrSyntax}, {"." + ten, api.ErrSyntax}, {"-." + ten, api.ErrSyntax},
		{"00." + ten, api.ErrSyntax}, {"x." + ten, api.ErrSyntax}, {"1." + ten + "x", api.ErrSyntax}, {"1." + ten + ".", api.ErrSyntax}, {"1." + ten + ".5", api.ErrSyntax}, {"1.x" + ten, api.ErrSyntax}, {"1.-" + ten, api.ErrSyntax},
	} {
		d, e := decimal.Parse(c.s)
		if e != c.want || e != api.OK && !isNothing(d) {
			t.Errorf("Parse(%.12q ... %q): %v, %d, expected %d", c.s, c.s[max(0, len(c.s)-12):], d, e, c.want)
		}
		if want, ok := new(big.Rat).SetString(c.s); e == api.OK && (!ok || valueOf(d).Cmp(want) != 0 || !is(d, bigInt(d.Units).String(), d.Places)) {
			t.Errorf("Parse(%.12q ... %q): %v", c.s, c.s[max(0, len(c.s)-12):], d)
		}
	}
}

// texts returns every text of so many of these bytes.
func texts(bytes string, length int) []string {
	list := []string{""}
	for range length {
		var longer []string
		for _, s := range list {
			for i := range len(bytes) {
				longer = append(longer, s+bytes[i:i+1])
			}
		}
		list = longer
	}
	return list
}

func TestP4_3AndP4_5AllShortTexts(t *testing.T) {
	form := regexp.MustCompile(`^-?(0|[1-9][0-9]*)(\.[0-9]+)?$`)
	minusZero := regexp.MustCompile(`^-[0.]*$`)
	for length := range 7 {
		for _, s := range texts("-.019+", length) {
			d, e := decimal.Parse(s)
			if !form.MatchString(s) || minusZero.MatchString(s) {
				if e != api.ErrSyntax || !isNothing(d) {
					t.Fatalf("Parse(%q): %v, %d", s, d, e)
				}
				continue
			}
			_, after, _ := strings.Cut(s, ".")
			want, _ := new(big.Rat).SetString(s)
			if e != api.OK || valueOf(d).Cmp(want) != 0 || !is(d, bigInt(d.Units).String(), len(after)) {
				t.Fatalf("Parse(%q): %v, %d", s, d, e)
			}
			if back, f := decimal.Print(d); back != s || f != api.OK {
				t.Fatalf("Print of Parse(%q): %q, %d", s, back, f)
			}
		}
	}
}

func TestP4_4Distance(t *testing.T) {
	every(t, 40, func(r api.Ratio, places, mode int, d api.Decimal) {
		x, y := bigOf(r), valueOf(d)
		distance := new(big.Rat).Sub(y, x)
		away := new(big.Rat).Abs(distance)
		unit := new(big.Rat).SetFrac(big.NewInt(1), power(places))
		half := new(big.Rat).Mul(unit, big.NewRat(1, 2))
		switch {
		case d.Places != places,
			away.Cmp(unit) >= 0,
			mode <= api.HalfDown && away.Cmp(half) > 0,
			mode == api.Floor && distance.Sign() > 0,
			mode == api.Ceil && distance.Sign() < 0,
			mode == api.Toward && new(big.Rat).Abs(y).Cmp(new(big.Rat).Abs(x)) > 0,
			mode == api.Away && new(big.Rat).Abs(y).Cmp(new(big.Rat).Abs(x)) < 0:
			t.Fatalf("Round(%s, %d, %d): %v", ratio.Print(r), places, mode, d)
		}
	})
}

func TestP4_5Notation(t *testing.T) {
	every(t, 50, func(r api.Ratio, places, mode int, d api.Decimal) {
		s, e := decimal.Print(d)
		back, f := decimal.Parse(s)
		if e != api.OK || f != api.OK || !same(back, d) {
			t.Fatalf("Parse of Print(%v), %q: %v, %d, %d", d, s, back, e, f)
		}
	})
	for length := 1; length <= api.MaxDigits; length++ {
		for places := 0; places <= api.MaxPlaces; places++ {
			for _, digit := range []string{"1", "9"} {
				s := "-" + digit + strings.Repeat("0", length-1)
				if places > 0 {
					s += "." + strings.Repeat("0", places-1) + digit
				}
				d, e := decimal.Parse(s)
				back, f := decimal.Print(d)
				if e != api.OK || f != api.OK || back != s || d.Places != places {
					t.Fatalf("%d digits, %d places: %v, %d, %d", length, places, back, e, f)
				}
			}
		}
	}
	// With one digit more before the point, Print writes what Parse doesn't read.
	for places := 0; places <= api.MaxPlaces; places++ {
		units := api.Int{Neg: true, Mag: natPower(api.MaxDigits + places)}
		s, e := decimal.Print(api.Decimal{Units: units, Places: places})
		if d, f := decimal.Parse(s); e != api.OK || f != api.ErrTooLong || !isNothing(d) {
			t.Errorf("-10^400 with %d places: %v, %d, %d", places, d, e, f)
		}
	}
}

func TestP4_6RescaledValues(t *testing.T) {
	every(t, 60, func(r api.Ratio, places, mode int, d api.Decimal) {
		again, e := decimal.Rescale(d, places, mode)
		value, f := decimal.Value(d)
		rounded, g := decimal.Round(value, places, mode)
		if e != api.OK || f != api.OK || g != api.OK || !same(again, d) || !same(rounded, d) {
			t.Fatalf("%v rounded again to %d places, mode %d: %v, %v, %d, %d, %d", d, places, mode, again, rounded, e, f, g)
		}
		for more := places; more <= api.MaxPlaces; more += 1 + mode {
			longer, e := decimal.Rescale(d, more, mode)
			if e != api.OK || longer.Places != more || valueOf(longer).Cmp(valueOf(d)) != 0 {
				t.Fatalf("%v rescaled to %d places, mode %d: %v, %d", d, more, mode, longer, e)
			}
		}
	})
}

func TestP4_7Negation(t *testing.T) {
	opposite := map[int]int{api.HalfEven: api.HalfEven, api.HalfUp: api.HalfUp, api.HalfDown: api.HalfDown, api.Away: api.Away, api.Toward: api.Toward, api.Floor: api.Ceil, api.Ceil: api.Floor}
	every(t, 70, func(r api.Ratio, places, mode int, d api.Decimal) {
		negated, e := decimal.Round(ratio.Neg(r), places, opposite[mode])
		if e != api.OK || !sameInt(negated.Units, integer.Neg(d.Units)) {
			t.Fatalf("-(%s) to %d places, mode %d: %v, expected the negative of %v", ratio.Print(r), places, mode, negated, d)
		}
	})
}

func TestP4_8Order(t *testing.T) {
	for places := 0; places <= api.MaxPlaces; places++ {
		rising := append(around(places), random(80+int64(places), 200)...)
		slices.SortFunc(rising, func(a, b api.Ratio) int { return bigOf(a).Cmp(bigOf(b)) })
		for _, mode := range modes {
			last, _ := decimal.Round(rising[0], places, mode)
			for i, r := range rising {
				d, e := decimal.Round(r, places, mode)
				if e != api.OK || valueOf(d).Cmp(valueOf(last)) < 0 {
					t.Fatalf("%s and %s to %d places, mode %d: %v and %v", ratio.Print(rising[max(i-1, 0)]), ratio.Print(r), places, mode, last, d)
				}
				last = d
			}
		}
	}
}

// overwrite changes all the memory of a natural number, its spare capacity too.
func overwrite(a api.Nat) {
	for i := range a[:cap(a)] {
		a[:cap(a)][i] = 0xdeadbeef
	}
}

// results returns every number that the functions return for a ratio and for
// a decimal with its numerator.
func results(r api.Ratio, places, mode int) []api.Ratio {
	rounded, _ := decimal.Round(r, places, mode)
	whole, _ := decimal.Integer(r, mode)
	value, _ := decimal.Value(api.Decimal{Units: r.Num, Places: places})
	rescaled, _ := decimal.Rescale(api.Decimal{Units: r.Num, Places: places}, (places+1)%10, mode)
	kept, _ := decimal.Rescale(api.Decimal{Units: r.Num, Places: places}, places, mode)
	return []api.Ratio{{Num: rounded.Units}, {Num: whole}, value, {Num: rescaled.Units}, {Num: kept.Units}}
}

func TestP2ArgumentsAndResultsAreApart(t *testing.T) {
	part := func(n api.Nat) api.Nat { return append(slices.Clone(n), 77, 78)[:len(n)] }
	intact := func(n, want api.Nat) bool {
		return slices.Equal(n, want) && slices.Equal(n[len(n):len(n)+2], api.Nat{77, 78})
	}
	for _, mag := range []api.Nat{nil, {0}, {1}, {5, 0}, {25, 0}, {0, 6}, {math.MaxUint32, math.MaxUint32, 0}} {
		for _, den := range []api.Nat{nil, {0}, {1}, {1, 0}, {2}, {0, 4, 0}, {math.MaxUint32, 7}} {
			for i := range 10 * len(modes) * 2 {
				neg, places, mode := i%2 == 0, i/2%10, modes[i/20]
				r := api.Ratio{Num: api.Int{Neg: neg, Mag: part(mag)}, Den: part(den)}
				got := results(r, places, mode)
				decimal.Print(api.Decimal{Units: r.Num, Places: places})
				if r.Num.Neg != neg || !intact(r.Num.Mag, mag) || !intact(r.Den, den) {
					t.Fatalf("an argument was modified: %v / %v, %d, %d", mag, den, places, mode)
				}
				overwrite(r.Num.Mag)
				overwrite(r.Den)
				want := results(api.Ratio{Num: api.Int{Neg: neg, Mag: mag}, Den: den}, places, mode)
				for j := range got {
					if !sameInt(got[j].Num, want[j].Num) || !slices.Equal(got[j].Den, want[j].Den) {
						t.Fatalf("result %d for %v / %v, %d, %d shares memory with an argument or a result", j, mag, den, places, mode)
					}
					overwrite(got[j].Num.Mag)
					overwrite(got[j].Den)
				}
			}
		}
	}
}

func TestExamplesOfTheChapter(t *testing.T) {
	for _, c := range []struct {
		number       string
		places, mode int
		want         string
	}{
		{"2/3", 3, api.HalfEven, "0.667"}, {"2/3", 3, api.Floor, "0.666"}, {"-2/3", 3, api.Floor, "-0.667"},
		{"1/8", 2, api.HalfEven, "0.12"}, {"1/8", 2, api.HalfUp, "0.13"}, {"1/8", 2, api.HalfDown, "0.12"},
	} {
		d, e := decimal.Round(read(c.number), c.places, c.mode)
		if s, f := decimal.Print(d); s != c.want || e != api.OK || f != api.OK {
			t.Errorf("Round(%s, %d, %d): %q, %d, %d", c.number, c.places, c.mode, s, e, f)
		}
	}
	if _, e := decimal.Round(read("1/2"), 10, 9); e != api.ErrRange {
		t.Error("Round(1/2, 10, 9)", e)
	}
	if _, e := decimal.Round(read("1/2"), 1, 9); e != api.ErrInvalid {
		t.Error("Round(1/2, 1, 9)", e)
	}
	if n, e := decimal.Integer(read("7/3"), api.Ceil); !isInt(n, "3") || e != api.OK {
		t.Error("Integer(7/3, Ceil)", n, e)
	}
}
