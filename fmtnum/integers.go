package fmtnum

import (
	"strconv"
	"strings"

	"chisel/api"
	"chisel/num"
)

// The integers that have words and Roman numbers.
const (
	maxDigits = 6 // of those that have words
	maxRoman  = 3999
)

// The words of the integers from 0 to 19, and those of the tens from 20 on.
var (
	smallWords = [20]string{"zero", "one", "two", "three", "four", "five", "six", "seven", "eight", "nine", "ten", "eleven", "twelve", "thirteen", "fourteen", "fifteen", "sixteen", "seventeen", "eighteen", "nineteen"}
	tensWords  = [10]string{"", "", "twenty", "thirty", "forty", "fifty", "sixty", "seventy", "eighty", "ninety"}
)

// The signs of Roman numbers, and what they are worth.
var (
	romanSigns = [13]string{"m", "cm", "d", "cd", "c", "xc", "l", "xl", "x", "ix", "v", "iv", "i"}
	romanWorth = [13]int{1000, 900, 500, 400, 100, 90, 50, 40, 10, 9, 5, 4, 1}
)

// digits returns an integer by a picture of digits.
func digits(n, picture string) (string, api.Errno) {
	if len(picture) > maxBytes {
		return "", api.ErrForm
	}
	if before, one := strings.CutSuffix(picture, "1"); one {
		picture = before + "0"
	}
	least, write, ok := readRow(picture, ",.' ")
	if !ok || least == 0 {
		return "", api.ErrForm
	}
	size, below := strings.CutPrefix(n, "-")
	return signed(below, write(size)), api.OK
}

// letters returns an integer by the picture a.
func letters(n string) (string, api.Errno) {
	if n == "0" || strings.HasPrefix(n, "-") {
		return "", api.ErrRange
	}
	s := ""
	for n != "0" {
		// There is no letter for 0: z is what a 0 would be in a place, and takes one from the next place.
		n, _ = num.Sub(n, "1")
		place, _ := num.Mod(n, "26")
		n, _ = num.IDiv(n, "26")
		i, _ := strconv.Atoi(place)
		s = string(rune('a'+i)) + s
	}
	return s, api.OK
}

// roman returns an integer by the picture i.
func roman(n string) (string, api.Errno) {
	left, err := strconv.Atoi(n)
	if err != nil || left < 1 || left > maxRoman {
		return "", api.ErrRange
	}
	s := ""
	for i, worth := range romanWorth {
		s += strings.Repeat(romanSigns[i], left/worth)
		left %= worth
	}
	return s, api.OK
}

// words returns an integer by the picture w.
func words(n string) (string, api.Errno) {
	size, below := strings.CutPrefix(n, "-")
	value, err := strconv.Atoi(size)
	if err != nil || len(size) > maxDigits {
		return "", api.ErrRange
	}
	s := spelt(value)
	if below {
		s = "minus " + s
	}
	return s, api.OK
}

// spelt returns the words of an integer from 0 on.
func spelt(n int) string {
	switch {
	case n < 20:
		return smallWords[n]
	case n < 100 && n%10 == 0:
		return tensWords[n/10]
	case n < 100:
		return tensWords[n/10] + "-" + smallWords[n%10]
	case n < 1000:
		return counted(n, 100, "hundred")
	}
	return counted(n, 1000, "thousand")
}

// counted returns the words of an integer that is at least one of a unit with a name.
func counted(n, unit int, name string) string {
	s := spelt(n/unit) + " " + name
	if rest := n % unit; rest > 0 {
		s += " " + spelt(rest)
	}
	return s
}

// inCapitals returns what a picture with small letters gives, in capital letters.
func inCapitals(s string, e api.Errno) (string, api.Errno) {
	return strings.ToUpper(s), e
}

// withCapitals returns what a picture with small letters gives, with a capital letter at the beginning of each word.
func withCapitals(s string, e api.Errno) (string, api.Errno) {
	l := strings.Fields(s)
	for i, word := range l {
		l[i] = strings.ToUpper(word[:1]) + word[1:]
	}
	return strings.Join(l, " "), e
}

// signed returns s with a minus sign before it if it is written for what is below 0.
func signed(below bool, s string) string {
	if below {
		return "-" + s
	}
	return s
}
