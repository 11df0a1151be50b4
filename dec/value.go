package dec

import (
	"strings"

	"pointillist/api"
)

const (
	// Digits ahead of the point that a number which isn't too great may have: 2^16 has as many.
	wholeDigits = 5
	// Digits behind it that are kept: all numbers with 17 places of two, the halves between two numbers with 16, are whole with these.
	keptDigits = 17
	// 10^17 by 2^17: what one place of two is, counted in the last of the kept digits.
	fiveTo17 = 762939453125
	// A power of this size outweighs all the digits that a text can have, so its own further digits tell nothing.
	enough = 1 << 50
)

// value is a decimal number without its sign, as much of it as its nearest number hangs on.
type value struct {
	whole int64
	kept  int64 // the digits behind the point that are kept, as a whole number
	more  bool  // whether a digit behind these isn't 0
	great bool  // whether a digit ahead of whole isn't 0
}

// nearest is of a number's text; false, if the nearest number is too great.
func nearest(s string) (int64, bool) {
	digits, power := parted(s)
	whole, fraction, _ := strings.Cut(digits, ".")
	var v value
	v.take(whole, power+int64(len(whole)))
	v.take(fraction, power)
	if v.great {
		return 0, false
	}
	n := v.rounded(isNegative(s))
	return n, n > -api.Bound && n < api.Bound
}

// parted tells a number's text without its sign and its power, and that power.
func parted(s string) (digits string, power int64) {
	if at := strings.IndexAny(s, "eE"); at >= 0 {
		power = powerOf(s[at+1:])
		s = s[:at]
	}
	return unsigned(s), power
}

// powerOf is just for powers below enough, either way; of any other one it is some number that is no nearer to 0 than enough.
func powerOf(s string) int64 {
	var n int64
	digits := unsigned(s)
	for i := 0; i < len(digits) && n < enough; i++ {
		n = 10*n + int64(digits[i]-'0')
	}
	if isNegative(s) {
		return -n
	}
	return n
}

func unsigned(s string) string { return strings.TrimLeft(s, "+-") }

func isNegative(s string) bool { return strings.HasPrefix(s, "-") }

// take adds digits, the first of which counts 10 to the power that is one less than above.
func (v *value) take(digits string, above int64) {
	for i := range len(digits) {
		n := int64(digits[i] - '0')
		place := above - 1 - int64(i)
		switch {
		case n == 0:
			// It tells nothing, wherever it stands.
		case place >= wholeDigits:
			v.great = true
		case place >= 0:
			v.whole += n * tenTo(place)
		case place >= -keptDigits:
			v.kept += n * tenTo(place+keptDigits)
		default:
			v.more = true
		}
	}
}

// tenTo is of the powers that a digit which is kept may have, 0 to 16.
func tenTo(power int64) int64 {
	n := int64(1)
	for range power {
		n *= 10
	}
	return n
}

// rounded counts in 2^-17, so that one that is left over is the half between two numbers.
// Just half goes to the greater number: up, or, below 0, towards it.
func (v value) rounded(negative bool) int64 {
	halves := v.whole*2*api.One + v.kept/fiveTo17
	more := v.more || v.kept%fiveTo17 != 0
	if !negative {
		return (halves + 1) / 2
	}
	if more {
		halves++
	}
	return -(halves / 2)
}
