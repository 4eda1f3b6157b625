package coll

import (
	"slices"
	"strconv"
	"strings"

	"chisel/api"
	"chisel/chars"
)

// maxChars is the greatest number of characters that are listed or ignored.
const maxChars = 4096

// maxDigits is the greatest number of digits of a code point.
const maxDigits = 6

// description is what the lines of a description say that have been read.
type description struct {
	weights  map[rune]weights // of the listed and the ignored characters
	last     weights          // of the last listed character
	strength int              // 0 if no line has said it
}

// entry is a character of a line, with its weights.
type entry struct {
	char    rune
	weights weights
}

// table returns the collation that is described.
func (d *description) table() *Table {
	t := &Table{weights: d.weights, last: d.last[0], strength: d.strength}
	if t.strength == 0 {
		t.strength = levels
	}
	return t
}

// add reads a line.
func (d *description) add(line string) api.Errno {
	// Only blanks separate words: other white space is a character like any other.
	words := strings.FieldsFunc(line, func(c rune) bool { return c == ' ' })
	switch {
	case len(words) == 0 || strings.HasPrefix(words[0], "#"):
		return api.OK
	case words[0] == "strength":
		return d.setStrength(words[1:])
	case words[0] == "ignore":
		return d.ignore(words[1:])
	}
	return d.list(words)
}

// setStrength reads what follows `strength`.
func (d *description) setStrength(words []string) api.Errno {
	if len(words) != 1 {
		return api.ErrForm
	}
	strength := slices.Index([]string{"1", "2", "3"}, words[0]) + 1
	switch {
	case strength == 0:
		return api.ErrForm
	case d.strength != 0:
		return api.ErrTwice
	}
	d.strength = strength
	return api.OK
}

// ignore reads what follows `ignore`.
func (d *description) ignore(words []string) api.Errno {
	if len(words) == 0 {
		return api.ErrForm
	}
	var l []entry
	for _, word := range words {
		c, ok := character(word)
		if !ok {
			return api.ErrForm
		}
		l = append(l, entry{c, ignored()})
	}
	return d.keep(l)
}

// list reads characters with signs between them.
func (d *description) list(words []string) api.Errno {
	var l []entry
	// The first character of a line has the weights that it would have after this sign.
	for pair := range slices.Chunk(slices.Concat([]string{"<"}, words), 2) {
		if len(pair) < 2 {
			return api.ErrForm
		}
		level, isSign := levelOf(pair[0])
		c, isChar := character(pair[1])
		if !isSign || !isChar {
			return api.ErrForm
		}
		d.last = d.last.next(level)
		l = append(l, entry{c, d.last})
	}
	return d.keep(l)
}

// keep adds the characters of a line. Its form is known to be right by then, which comes before what else can be wrong.
func (d *description) keep(l []entry) api.Errno {
	for _, x := range l {
		if _, ok := d.weights[x.char]; ok {
			return api.ErrTwice
		}
		d.weights[x.char] = x.weights
	}
	if len(d.weights) > maxChars {
		return api.ErrLong
	}
	return api.OK
}

// levelOf returns the level at which a character differs from the one before a sign; false if the word is no sign.
func levelOf(word string) (level int, ok bool) {
	switch word {
	case "<":
		return 0, true
	case ",":
		return 1, true
	case ";":
		return 2, true
	}
	return 0, false
}

// character returns the character that is written as a word; false if none is.
func character(word string) (c rune, ok bool) {
	if digits, ok := strings.CutPrefix(word, "U+"); ok {
		return numbered(digits)
	}
	if _, isSign := levelOf(word); isSign || chars.Len(word) != 1 {
		return 0, false
	}
	return []rune(word)[0], true
}

// numbered returns the character with a code point in hexadecimal digits; false if there is none.
func numbered(digits string) (c rune, ok bool) {
	n, err := strconv.ParseUint(digits, 16, 32)
	if err != nil || len(digits) > maxDigits {
		return 0, false
	}
	if _, e := chars.From([]int{int(n)}); e != api.OK {
		return 0, false
	}
	return rune(n), true
}
