package fmtnum

import (
	"strings"

	"chisel/api"
	"chisel/chars"
	"chisel/num"
)

// maxFraction is the greatest number of digit signs after a point.
const maxFraction = 20

// part is a part of a picture of numbers.
type part struct {
	prefix, suffix string
	write          func(digits string) string // writes the digits before the point
	fraction       string                     // the digit signs after the point
}

// readParts returns the parts of a picture of numbers; second is nil if there is only one.
func readParts(picture string) (first, second *part, ok bool) {
	if len(picture) > maxBytes || !chars.IsText(picture) {
		return nil, nil, false
	}
	before, after, two := strings.Cut(picture, ";")
	first, ok = readPart(before)
	if ok && two {
		second, ok = readPart(after)
	}
	return first, second, ok
}

// readPart returns the part that is written as s.
func readPart(s string) (p *part, ok bool) {
	// Neither prefix nor suffix has one of these, and what is between them begins and ends with one.
	const signs = "#0,."
	begin, end := strings.IndexAny(s, signs), strings.LastIndexAny(s, signs)+1
	if begin < 0 || strings.Contains(s, ";") {
		return nil, false
	}
	row, fraction, point := strings.Cut(s[begin:end], ".")
	if point && (fraction == "" || len(fraction) > maxFraction || !inOrder(fraction, "0", "#")) {
		return nil, false
	}
	_, write, ok := readRow(row, ",")
	p = &part{s[:begin], s[end:], write, fraction}
	if !ok || strings.Count(p.prefix+p.suffix, "%") > 1 {
		return nil, false
	}
	return p, true
}

// value returns a number as it is multiplied and rounded before it is written.
func (p *part) value(n string) (string, api.Errno) {
	if strings.Contains(p.prefix+p.suffix, "%") {
		product, e := num.Mul(n, "100")
		if e != api.OK {
			return "", e
		}
		n = product
	}
	return num.Round(n, len(p.fraction), "even")
}

// written returns what a value is written as.
func (p *part) written(value string) string {
	size, below := strings.CutPrefix(value, "-")
	before, after, _ := strings.Cut(size, ".")
	// If the row has a 0, a single 0 that is left out comes back with the zeros in front.
	s := p.write(strings.TrimPrefix(before, "0"))
	after += strings.Repeat("0", max(strings.Count(p.fraction, "0")-len(after), 0))
	if after != "" {
		s += "." + after
	}
	if s == "" {
		s = "0"
	}
	return signed(below, p.prefix+s+p.suffix)
}
