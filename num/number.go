package num

import (
	"strings"

	"chisel/api"
)

// The greatest numbers of digits of a canonical text before and after the point.
const (
	maxBefore = 30
	maxAfter  = 20
)

// number is a number: whether it is below 0 (that does not matter if it is 0), and its absolute value in units of 10^-20.
type number struct {
	below bool
	units natural
}

// operand returns the number that a canonical text stands for.
func operand(a string) (number, api.Errno) {
	w, ok := split(a)
	if !ok || !w.isCanonical() {
		return number{}, api.ErrArg
	}
	return w.number(), api.OK
}

// operands returns the numbers that two canonical texts stand for.
func operands(a, b string) (x, y number, e api.Errno) {
	if x, e = operand(a); e == api.OK {
		y, e = operand(b)
	}
	return x, y, e
}

// divisible returns the numbers that two canonical texts stand for, the second of which must not be 0.
func divisible(a, b string) (x, y number, e api.Errno) {
	x, y, e = operands(a, b)
	if e == api.OK && len(y.units) == 0 {
		e = api.ErrDiv
	}
	return x, y, e
}

// ratio returns the number whose absolute value is the quotient of a and b in units, rounded as the results of computations are.
func ratio(below bool, a, b natural) number {
	return number{below, rounding("even").divide(below, a, b)}
}

// negated returns -x.
func (x number) negated() number {
	return number{!x.below, x.units}
}

// plus returns x + y.
func (x number) plus(y number) number {
	switch {
	case x.below == y.below:
		return number{x.below, add(x.units, y.units)}
	case compare(x.units, y.units) < 0:
		return number{y.below, subtract(y.units, x.units)}
	}
	return number{x.below, subtract(x.units, y.units)}
}

// compare returns -1, 0 or 1 if x is less than y, equal to it, or greater.
func (x number) compare(y number) int {
	switch {
	case x.below && y.below:
		return compare(y.units, x.units)
	case x.below:
		return -1
	case y.below:
		return 1
	}
	return compare(x.units, y.units)
}

// text returns the canonical text of x, or ErrPlus if it is too large.
func (x number) text() (string, api.Errno) {
	digits := strings.Repeat("0", maxAfter) + x.units.digits()
	point := len(digits) - maxAfter
	before, after := strings.TrimLeft(digits[:point], "0"), strings.TrimRight(digits[point:], "0")
	if len(before) > maxBefore {
		return "", api.ErrPlus
	}
	if before == "" {
		before = "0"
	}
	s := before
	if after != "" {
		s += "." + after
	}
	if x.below && s != "0" {
		s = "-" + s
	}
	return s, api.OK
}
