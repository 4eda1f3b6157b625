package dbl

import (
	"strconv"
	"strings"
)

// decimal is a decimal number: its sign and its digits, with the point before digits[point]; if there is no such digit, as many digits 0 are thought in between.
type decimal struct {
	below  bool
	digits string
	point  int
}

const (
	// far is a place of the point from which on a number has the double INF, and its opposite one up to which it has 0.
	far = 400
	// farthest is an exponent that puts the point far away from any digits.
	farthest = 1 << 40
)

// read returns the number that s is; ok is false if it is none. Its first digit is not 0, and its point not far away.
func read(s string) (d decimal, ok bool) {
	power := int64(0)
	if i := strings.IndexAny(s, "Ee"); i >= 0 {
		if power, ok = readPower(s[i+1:]); !ok {
			return decimal{}, false
		}
		s = s[:i]
	}
	sign, s := cutSign(s)
	before, after, _ := strings.Cut(s, ".")
	all := before + after
	if !isNumeral(all) {
		return decimal{}, false
	}
	digits := strings.TrimLeft(all, "0")
	point := power + int64(len(before)-(len(all)-len(digits)))
	return decimal{sign == "-", digits, int(max(-far, min(point, far)))}, true
}

// readPower returns the integer that s is, or a farthest one; ok is false if it is none.
func readPower(s string) (power int64, ok bool) {
	if _, digits := cutSign(s); !isNumeral(digits) {
		return 0, false
	}
	// For an integer that is too large, ParseInt returns the nearest one.
	power, _ = strconv.ParseInt(s, 10, 64)
	return max(-farthest, min(power, farthest)), true
}

// cutSign returns the sign of s, or "" if it has none, and what follows it.
func cutSign(s string) (sign, rest string) {
	if strings.HasPrefix(s, "-") || strings.HasPrefix(s, "+") {
		return s[:1], s[1:]
	}
	return "", s
}

// isNumeral reports whether s consists of decimal digits, of one at least.
func isNumeral(s string) bool {
	return s != "" && strings.Trim(s, "0123456789") == ""
}

// sign returns the sign of a number as it is written.
func (d decimal) sign() string {
	if d.below {
		return "-"
	}
	return ""
}

// nearest returns the double nearest to the number.
func (d decimal) nearest() float64 {
	// The point is put first, since ParseFloat cuts exponents of more than five digits. Its error says no more than that the double is INF.
	f, _ := strconv.ParseFloat(d.sign()+"0."+d.digits+"E"+strconv.Itoa(d.point), 64)
	return f
}

// text returns a number whose point is among its digits as it is written.
func (d decimal) text() string {
	return d.sign() + d.digits[:d.point] + "." + d.digits[d.point:]
}
