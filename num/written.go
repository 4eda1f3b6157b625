package num

import "strings"

// written is a number as it is written: its sign, if it has one, and its digits before and after the point.
type written struct {
	sign, before, after string
	point               bool
}

// split returns the parts of a number in the form that Parse reads; ok is false if s does not have this form.
func split(s string) (w written, ok bool) {
	if s != "" && (s[0] == '+' || s[0] == '-') {
		w.sign, s = s[:1], s[1:]
	}
	w.before, w.after, w.point = strings.Cut(s, ".")
	if w.before == "" && w.after == "" || !isDigits(w.before) || !isDigits(w.after) {
		return written{}, false
	}
	return w, true
}

// isDigits reports whether s consists of decimal digits.
func isDigits(s string) bool {
	return !strings.ContainsFunc(s, func(c rune) bool { return c < '0' || c > '9' })
}

// isCanonical reports whether the number is written as its canonical text.
func (w written) isCanonical() bool {
	switch {
	case w.sign == "+", w.before == "", len(w.before) > maxBefore, len(w.after) > maxAfter:
		return false
	case w.before[0] == '0' && w.before != "0":
		return false
	case w.point:
		return w.after != "" && !strings.HasSuffix(w.after, "0")
	}
	return w.sign == "" || w.before != "0"
}

// number returns the number that is written, rounded to units.
func (w written) number() number {
	zeros := strings.Repeat("0", max(maxAfter-len(w.after), 0))
	below, digits := w.sign == "-", parseDigits(w.before+w.after+zeros)
	if more := len(w.after) - maxAfter; more > 0 {
		return ratio(below, digits, power(more))
	}
	return number{below, digits}
}
