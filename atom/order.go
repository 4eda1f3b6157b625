package atom

import (
	"strings"

	"chisel/api"
	"chisel/num"
)

// How a value is ordered to another one: the first three are what functions that compare return; numbers are unordered if one of them is NaN.
const (
	less      = -1
	equal     = 0
	greater   = 1
	unordered = 2
)

// condition returns the function that reports whether a comparison holds for values that are ordered in this way, or nil if there is no such comparison.
func condition(op string) func(order int) bool {
	switch op {
	case "eq":
		return func(order int) bool { return order == equal }
	case "ne":
		return func(order int) bool { return order != equal }
	case "lt":
		return func(order int) bool { return order == less }
	case "le":
		return func(order int) bool { return order == less || order == equal }
	case "gt":
		return func(order int) bool { return order == greater }
	case "ge":
		return func(order int) bool { return order == greater || order == equal }
	}
	return nil
}

// order returns how a valid value is ordered to another one; ErrType if they cannot be compared.
func order(a, b api.Atom) (int, api.Errno) {
	bools := a.Kind == api.AtomBool && b.Kind == api.AtomBool
	switch {
	case bools, isString(a.Kind) && isString(b.Kind):
		// The bytes of the two texts of truths have their order, too.
		return strings.Compare(a.Text, b.Text), api.OK
	case isExact(a.Kind) && isExact(b.Kind):
		return num.Cmp(a.Text, b.Text)
	case isNumber(a.Kind) && isNumber(b.Kind):
		return orderDoubles(double(a), double(b)), api.OK
	case a.Kind != b.Kind:
		return 0, api.ErrType
	}
	return num.Cmp(amount(a), amount(b))
}

// orderDoubles returns how a double is ordered to another one.
func orderDoubles(a, b float64) int {
	switch {
	case a < b:
		return less
	case a > b:
		return greater
	case a == b:
		return equal
	}
	return unordered
}
