package dur

import (
	"strings"

	"chisel/api"
	"chisel/num"
)

// seconds is the letter of the only part whose number can have a point.
const seconds = "S"

// section is what was read of a form: whether its mark is there, how many parts follow it, their numbers (0 for each one that is missing), and whether the form ends here.
type section struct {
	marked  bool
	count   int
	numbers []string
	ends    bool
}

// reading returns a function that reads a form from its beginning, section by section. It is passed the mark of a section, and the letters of its parts in their order, each of which can be missing.
func reading(form string) func(mark string, letters ...string) section {
	// What is left is passed on to the next call in the variable form.
	return func(mark string, letters ...string) section {
		var s section
		form, s.marked = strings.CutPrefix(form, mark)
		for _, letter := range letters {
			number, rest, ok := cutPart(form, letter)
			if s.marked && ok {
				form = rest
				s.count++
			} else {
				number = "0"
			}
			s.numbers = append(s.numbers, number)
		}
		s.ends = form == ""
		return s
	}
}

// cutPart returns the number of a part with this letter at the beginning of s, and what follows the part; ok is false if there is none.
func cutPart(s, letter string) (number, rest string, ok bool) {
	number, rest, ok = strings.Cut(s, letter)
	whole, fraction, point := strings.Cut(number, ".")
	switch {
	case !ok, !isDigits(whole):
		return "", "", false
	case point && (letter != seconds || !isDigits(fraction)):
		return "", "", false
	}
	return number, rest, true
}

// isDigits reports whether s consists of decimal digits, and of at least one.
func isDigits(s string) bool {
	return s != "" && strings.Trim(s, "0123456789") == ""
}

// sum returns the sum of numbers, each of which is a number of the unit in the same place; or the opposite of the sum, if it is below 0. Its only error is ErrPlus.
func sum(below bool, numbers []string, units ...string) (string, api.Errno) {
	// Only the number of seconds can have a fraction, and rounding it before whole numbers are added is the same as rounding the sum. No number is below 0, so if one is too large, the sum is, too.
	total := "0"
	for i, unit := range units {
		n, e := num.Parse(numbers[i])
		if e != api.OK {
			return "", e
		}
		if n, e = num.Mul(n, unit); e != api.OK {
			return "", e
		}
		if total, e = num.Add(total, n); e != api.OK {
			return "", e
		}
	}
	if below {
		return num.Neg(total)
	}
	return total, api.OK
}

// split returns how many whole units are in n, and what is left of it. n is a canonical text, and the unit is a whole number that is not 0, so neither function of num has an error.
func split(n, unit string) (whole, left string) {
	whole, _ = num.IDiv(n, unit)
	left, _ = num.Mod(n, unit)
	return whole, left
}

// part returns a number with the letter of its part, or nothing if it is 0.
func part(number, letter string) string {
	if number == "0" {
		return ""
	}
	return number + letter
}
