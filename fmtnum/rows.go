package fmtnum

import (
	"slices"
	"strings"
)

// readRow reads a row whose grouping signs, if there are any, are all the same one of some signs: how many digits it asks for at least, and a function that writes decimal digits by it.
func readRow(s, signs string) (least int, write func(digits string) string, ok bool) {
	sign, groups := "", []string{s}
	if i := strings.IndexAny(s, signs); i >= 0 {
		sign = s[i : i+1]
		groups = strings.Split(s, sign)
		// A grouping sign that is not between two digit signs has nothing on one of its sides.
		if slices.Contains(groups, "") {
			return 0, nil, false
		}
	}
	if !inOrder(strings.Join(groups, ""), "#", "0") {
		return 0, nil, false
	}
	least = strings.Count(s, "0")
	return least, writing(least, sign, places(groups)), true
}

// inOrder reports whether s consists of any number of one sign, and then any number of another one.
func inOrder(s, first, second string) bool {
	return strings.TrimLeft(strings.TrimLeft(s, first), second) == ""
}

// writing returns a function that writes digits with zeros in front, so that there are at least so many, and with a sign in some places.
func writing(least int, sign string, isPlace func(p int) bool) func(digits string) string {
	return func(digits string) string {
		digits = strings.Repeat("0", max(least-len(digits), 0)) + digits
		var b strings.Builder
		for i := range len(digits) {
			if i > 0 && isPlace(len(digits)-i) {
				b.WriteString(sign)
			}
			b.WriteByte(digits[i])
		}
		return b.String()
	}
}

// places returns a function that reports whether a grouping sign belongs before the last p digits, if the digit signs of a row are in these groups.
func places(groups []string) func(p int) bool {
	if g, ok := regular(groups); ok {
		return func(p int) bool { return p%g == 0 }
	}
	var l []int
	place := 0
	for _, group := range slices.Backward(groups[1:]) {
		place += len(group)
		l = append(l, place)
	}
	return func(p int) bool { return slices.Contains(l, p) }
}

// regular returns how many digit signs are in each group but the first one, which has no more of them, if the row is regular.
func regular(groups []string) (g int, ok bool) {
	g = len(groups[len(groups)-1])
	others := slices.ContainsFunc(groups[1:], func(group string) bool { return len(group) != g })
	if len(groups) == 1 || others || len(groups[0]) > g {
		return 0, false
	}
	return g, true
}
