package nat

import "examboard/api"

// Decimal notation is read and written in chunks of the most digits that fit
// into a limb; chunkBase is 10^chunkDigits.
const (
	chunkDigits = 9
	chunkBase   = 1000000000
)

// Parse reads decimal notation.
func Parse(s string) (api.Nat, api.Errno) {
	if !isNotation(s) {
		return nil, api.ErrSyntax
	}
	if len(s) > api.MaxDigits {
		return nil, api.ErrTooLong
	}
	var number api.Nat
	// The chunks are counted from the end of s, so the first one may be short.
	for end := (len(s)-1)%chunkDigits + 1; end <= len(s); end += chunkDigits {
		carry := timesPlus(number, chunkBase, chunkValue(s[max(end-chunkDigits, 0):end]))
		if carry != 0 {
			number = append(number, carry)
		}
	}
	return number, api.OK
}

// isNotation tells whether s is the decimal notation of a number of any size.
func isNotation(s string) bool {
	for i := range len(s) {
		if s[i] < '0' || s[i] > '9' {
			return false
		}
	}
	return s == "0" || s != "" && s[0] != '0'
}

func chunkValue(digits string) uint32 {
	var value uint32
	for i := range len(digits) {
		value = value*10 + uint32(digits[i]-'0')
	}
	return value
}

// timesPlus replaces a by a * factor + more, and returns the limb that does
// not fit into the length of a.
func timesPlus(a api.Nat, factor, more uint32) uint32 {
	carry := uint64(more)
	for i, limb := range a {
		carry += uint64(limb) * uint64(factor)
		a[i] = uint32(carry)
		carry >>= limbBits
	}
	return uint32(carry)
}

// Print writes decimal notation.
func Print(a api.Nat) string {
	left := Norm(a)
	if len(left) == 0 {
		return "0"
	}
	// 2^32 has ten digits, so ten bytes per limb are enough.
	text := make([]byte, 10*len(left))
	start := len(text)
	for len(left) > 0 {
		chunk := divideByLimb(left, chunkBase)
		left = trim(left)
		// Only the highest chunk is written without leading zeros.
		for i := 0; i < chunkDigits && (chunk > 0 || len(left) > 0); i++ {
			start--
			text[start] = byte('0' + chunk%10)
			chunk /= 10
		}
	}
	return string(text[start:])
}
