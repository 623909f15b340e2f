package decimal

import (
	"strings"

	"examboard/api"
	"examboard/integer"
	"examboard/nat"
)

// Parse reads decimal notation with a point.
func Parse(s string) (api.Decimal, api.Errno) {
	unsigned, neg := strings.CutPrefix(s, "-")
	before, after, point := strings.Cut(unsigned, ".")
	whole, e := nat.Parse(before)
	switch {
	case e == api.ErrSyntax, point && !isDigits(after), neg && isZero(unsigned):
		return api.Decimal{}, api.ErrSyntax
	case e != api.OK, len(after) > api.MaxPlaces:
		return api.Decimal{}, api.ErrTooLong
	}
	places := len(after)
	// Before and after the point there may be more digits than nat.Parse reads at once.
	mag := nat.Add(nat.Mul(whole, scale(places)), nat.Of(digitsValue(after)))
	return api.Decimal{Units: integer.Make(neg, mag), Places: places}, api.OK
}

// isDigits tells whether s consists of one or more digits.
func isDigits(s string) bool {
	for i := range len(s) {
		if s[i] < '0' || s[i] > '9' {
			return false
		}
	}
	return s != ""
}

// isZero tells whether all digits of a notation without a sign are 0.
func isZero(unsigned string) bool {
	return strings.Trim(unsigned, "0.") == ""
}

// digitsValue returns the number that at most MaxPlaces digits denote, 0 for none.
func digitsValue(digits string) uint64 {
	var value uint64
	for i := range len(digits) {
		value = value*10 + uint64(digits[i]-'0')
	}
	return value
}

// Print writes decimal notation with exactly Places digits after the point.
func Print(d api.Decimal) (string, api.Errno) {
	if !isPlaces(d.Places) {
		return "", api.ErrRange
	}
	digits, neg := strings.CutPrefix(integer.Print(d.Units), "-")
	// One digit stands before the point even if the units have fewer digits than places.
	digits = strings.Repeat("0", max(d.Places+1-len(digits), 0)) + digits
	point := len(digits) - d.Places
	text := digits[:point]
	if d.Places > 0 {
		text += "." + digits[point:]
	}
	if neg {
		text = "-" + text
	}
	return text, api.OK
}
