package dbl

import "strings"

// away returns the function that judges what is cut off from a number, or nil if there is no such way to round. It is passed the digits that are kept and those that are cut off, without zeros at their end, and reports whether the number goes away from 0 by one unit instead.
func away(how string, below bool) func(kept, rest string) bool {
	switch how {
	case "half":
		return func(_, rest string) bool { return rest > "5" || rest == "5" && !below }
	case "even":
		return func(kept, rest string) bool { return rest > "5" || rest == "5" && isOdd(kept) }
	case "floor":
		return func(_, rest string) bool { return rest != "" && below }
	case "ceiling":
		return func(_, rest string) bool { return rest != "" && !below }
	case "cut":
		return func(_, _ string) bool { return false }
	}
	return nil
}

// isOdd reports whether a whole number is odd.
func isOdd(digits string) bool {
	return digits != "" && (digits[len(digits)-1]-'0')%2 == 1
}

// rounded returns the number with so many digits after the point at most, where judge judges what is cut off.
func (d decimal) rounded(places int, judge func(kept, rest string) bool) decimal {
	keep := d.point + places
	if keep >= len(d.digits) {
		return d
	}
	if keep < 0 {
		d.digits, d.point, keep = strings.Repeat("0", -keep)+d.digits, d.point-keep, 0
	}
	kept := d.digits[:keep]
	if judge(kept, strings.TrimRight(d.digits[keep:], "0")) {
		kept = next(kept)
	}
	// What follows a whole number up to the point is 0, and one more digit moves the point.
	return decimal{d.below, kept + strings.Repeat("0", max(-places, 0)), d.point + len(kept) - keep}
}

// next returns the whole number after one.
func next(digits string) string {
	left := strings.TrimRight(digits, "9")
	zeros := strings.Repeat("0", len(digits)-len(left))
	if left == "" {
		return "1" + zeros
	}
	last := len(left) - 1
	return left[:last] + string(rune(left[last]+1)) + zeros
}
