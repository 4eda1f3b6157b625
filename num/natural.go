package num

import (
	"cmp"
	"math/bits"
	"slices"
	"strconv"
	"strings"
)

// wordDigits is the number of decimal digits of a word, and base is one more than the greatest word.
const (
	wordDigits = 9
	base       = 1_000_000_000
)

// natural is a whole number that is not below 0: words of nine digits, the lowest ones first, the last of which is not 0.
type natural []uint32

// word returns a word, or 0 if there is none at this place.
func (n natural) word(place int) uint32 {
	if place < 0 || place >= len(n) {
		return 0
	}
	return n[place]
}

// isOdd reports whether n is odd.
func (n natural) isOdd() bool {
	return n.word(0)%2 == 1
}

// trimmed returns n without the words 0 at its end.
func (n natural) trimmed() natural {
	for len(n) > 0 && n[len(n)-1] == 0 {
		n = n[:len(n)-1]
	}
	return n
}

// digits returns the decimal digits of n, with zeros before them so that there are nine for each word.
func (n natural) digits() string {
	var b strings.Builder
	for _, w := range slices.Backward(n) {
		s := strconv.Itoa(int(w))
		b.WriteString(strings.Repeat("0", wordDigits-len(s)))
		b.WriteString(s)
	}
	return b.String()
}

// parseDigits returns the number with these decimal digits.
func parseDigits(s string) natural {
	var n natural
	for len(s) > 0 {
		from := max(len(s)-wordDigits, 0)
		w := uint32(0)
		for i := range len(s) - from {
			w = 10*w + uint32(s[from+i]-'0')
		}
		n, s = append(n, w), s[:from]
	}
	return n.trimmed()
}

// power returns 10^n.
func power(n int) natural {
	word := uint32(1)
	for range n % wordDigits {
		word *= 10
	}
	return append(make(natural, n/wordDigits), word)
}

// compare returns -1, 0 or 1 if a is less than b, equal to it, or greater.
func compare(a, b natural) int {
	if c := cmp.Compare(len(a), len(b)); c != 0 {
		return c
	}
	for i, w := range slices.Backward(a) {
		if c := cmp.Compare(w, b[i]); c != 0 {
			return c
		}
	}
	return 0
}

// add returns a + b.
func add(a, b natural) natural {
	sum := make(natural, max(len(a), len(b))+1)
	carry := uint32(0)
	for i := range len(sum) {
		w := a.word(i) + b.word(i) + carry
		sum[i], carry = w%base, w/base
	}
	return sum.trimmed()
}

// subtract returns a - b, which is not below 0.
func subtract(a, b natural) natural {
	difference := make(natural, len(a))
	borrow := uint32(0)
	for i := range len(a) {
		w := base + a[i] - b.word(i) - borrow
		difference[i], borrow = w%base, 1-w/base
	}
	return difference.trimmed()
}

// multiply returns a times b.
func multiply(a, b natural) natural {
	product := make(natural, len(a)+len(b))
	for i := range len(a) {
		carry := uint64(0)
		for k := range len(b) {
			w := uint64(a[i])*uint64(b[k]) + uint64(product[i+k]) + carry
			product[i+k], carry = uint32(w%base), w/base
		}
		product[i+len(b)] = uint32(carry)
	}
	return product.trimmed()
}

// divide returns the quotient of a and b without its fraction, and what is left of a. b is not 0.
func divide(a, b natural) (quotient, rest natural) {
	quotient = make(natural, len(a))
	for i, w := range slices.Backward(a) {
		rest = append(natural{w}, rest...).trimmed()
		q := guess(rest, b)
		part := multiply(b, natural{q})
		if compare(part, rest) > 0 {
			q, part = q-1, subtract(part, b)
		}
		quotient[i], rest = q, subtract(rest, part)
	}
	return quotient.trimmed(), rest
}

// guess returns how often b is in rest, or one more; it is less than base.
func guess(rest, b natural) uint32 {
	// The two highest words of b are compared with what rest has from the same place on. What b has below them is less than a part in base of it, so that leaving it out changes a quotient that is less than base by less than 1.
	n := len(b)
	divisor := uint64(b[n-1])*base + uint64(b.word(n-2))
	high, low := bits.Mul64(uint64(rest.word(n))*base+uint64(rest.word(n-1)), base)
	low, carry := bits.Add64(low, uint64(rest.word(n-2)), 0)
	quotient, _ := bits.Div64(high+carry, low, divisor)
	return uint32(min(quotient, base-1))
}
