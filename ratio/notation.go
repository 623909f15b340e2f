package ratio

import (
	"strings"

	"examboard/api"
	"examboard/integer"
	"examboard/nat"
)

// Parse reads a / b or an integer.
func Parse(s string) (api.Ratio, api.Errno) {
	before, after, found := strings.Cut(s, "/")
	num, e := integer.Parse(before)
	if e != api.OK {
		return zero(), e
	}
	den := nat.Of(1)
	if found {
		den, e = nat.Parse(after)
	}
	switch {
	case e != api.OK:
		return zero(), e
	case nat.Bits(den) == 0:
		return zero(), api.ErrSyntax
	}
	return reduced(num, den), api.OK
}

// Print writes a / b, or an integer if the denominator is 1.
func Print(a api.Ratio) string {
	a = Norm(a)
	text := integer.Print(a.Num)
	if nat.Cmp(a.Den, nat.Of(1)) == 0 {
		return text
	}
	return text + "/" + nat.Print(a.Den)
}
