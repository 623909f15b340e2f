package integer

import (
	"strings"

	"examboard/api"
	"examboard/nat"
)

// Parse reads decimal notation.
func Parse(s string) (api.Int, api.Errno) {
	digits, neg := strings.CutPrefix(s, "-")
	mag, e := nat.Parse(digits)
	if e != api.OK {
		return api.Int{}, e
	}
	if neg && len(mag) == 0 {
		return api.Int{}, api.ErrSyntax
	}
	return signed(neg, mag), api.OK
}

// Print writes decimal notation.
func Print(a api.Int) string {
	if Sign(a) < 0 {
		return "-" + nat.Print(a.Mag)
	}
	return nat.Print(a.Mag)
}
