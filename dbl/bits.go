package dbl

import (
	"math"
	"strconv"
	"strings"
)

// The bits of a double are its sign, its exponent, and its mantissa without the first digit.
const (
	mantissaBits = 52
	exponentBits = 11
	// wholeExponent is the exponent, as the bits have it, from which on a double is a whole number whatever its mantissa is.
	wholeExponent = 1075
)

// isFinite reports whether f is neither INF nor -INF nor NaN.
func isFinite(f float64) bool {
	return !math.IsInf(f, 0) && !math.IsNaN(f)
}

// exact returns the number that a finite double is.
func exact(f float64) decimal {
	exponent := int(math.Float64bits(f) >> mantissaBits & (1<<exponentBits - 1))
	// Half of a unit is five of the next digit, so as many decimal digits are needed after the point as there are binary ones.
	places := max(wholeExponent-exponent, 0)
	before, after, _ := strings.Cut(strconv.FormatFloat(math.Abs(f), 'f', places, 64), ".")
	return decimal{math.Signbit(f), before + after, len(before)}
}

// plain returns the digits of a finite double as a decimal number.
func plain(f float64) string {
	return strconv.FormatFloat(f, 'f', -1, 64)
}

// scientific returns the digits of a finite double with an exponent.
func scientific(f float64) string {
	digits, power, _ := strings.Cut(strconv.FormatFloat(f, 'E', -1, 64), "E")
	if !strings.Contains(digits, ".") {
		digits += ".0"
	}
	// FormatFloat writes a plus sign, and at least two digits.
	sign, power := cutSign(power)
	return digits + "E" + strings.TrimPrefix(sign, "+") + strings.TrimLeft(power, "0")
}
