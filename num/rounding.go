package num

// cut is what is cut off from a number to make it a multiple of a unit.
type cut struct {
	below bool // the number is below 0
	odd   bool // what is left is an odd multiple of the unit
	none  bool // nothing is cut off
	half  int  // -1, 0 or 1: less than half of the unit is cut off, half of it, or more
}

// way is a way to round: it is passed what is cut off from a number, and reports whether it goes away from 0 by one unit instead.
type way func(c cut) bool

// rounding returns the way to round that has a name, or nil if there is none.
func rounding(how string) way {
	switch how {
	case "half":
		return func(c cut) bool { return c.half > 0 || c.half == 0 && !c.below }
	case "even":
		return func(c cut) bool { return c.half > 0 || c.half == 0 && c.odd }
	case "floor":
		return func(c cut) bool { return c.below && !c.none }
	case "ceiling":
		return func(c cut) bool { return !c.below && !c.none }
	case "cut":
		return func(cut) bool { return false }
	}
	return nil
}

// divide returns the absolute value of a quotient, rounded to a whole number; below says that the quotient is below 0.
func (w way) divide(below bool, a, b natural) natural {
	quotient, rest := divide(a, b)
	c := cut{below: below, odd: quotient.isOdd(), none: len(rest) == 0, half: compare(add(rest, rest), b)}
	if w(c) {
		return add(quotient, natural{1})
	}
	return quotient
}
