// Package chars is layer 1: characters, texts, white space and names. See shared/doc/01-chars.md.
package chars

import (
	"strings"
	"unicode/utf8"

	"chisel/api"
)

// maxName is the greatest number of characters of a name.
const maxName = 100

// IsText reports whether s is a text: the UTF-8 form of characters.
func IsText(s string) bool {
	// A range over bytes that are no UTF-8 gives U+FFFD, which is a character: so these are ruled out first.
	if !utf8.ValidString(s) {
		return false
	}
	for _, r := range s {
		if !isChar(r) {
			return false
		}
	}
	return true
}

// IsName reports whether s is a name: a part, or two of them with a colon between them, of at most 100 characters.
func IsName(s string) bool {
	if !IsText(s) || utf8.RuneCountInString(s) > maxName {
		return false
	}
	first, second, colon := strings.Cut(s, ":")
	return isPart(first) && (!colon || isPart(second))
}

// IsSpace reports whether s consists of white space.
func IsSpace(s string) bool {
	return !strings.ContainsFunc(s, func(r rune) bool { return !isWhite(r) })
}

// Norm returns s without the white space at its ends, and with one blank for each other run of white space.
func Norm(s string) string {
	return strings.Join(strings.FieldsFunc(s, isWhite), " ")
}

// Points returns the code points of a text in order.
func Points(s string) ([]int, api.Errno) {
	if !IsText(s) {
		return nil, api.ErrText
	}
	l := make([]int, 0, utf8.RuneCountInString(s))
	for _, r := range s {
		l = append(l, int(r))
	}
	return l, api.OK
}

// From returns the text that consists of the characters with the code points in l.
func From(l []int) (string, api.Errno) {
	var b strings.Builder
	for _, c := range l {
		r := rune(c)
		// A rune has fewer bits than an int: a number that does not fit is no character.
		if int(r) != c || !isChar(r) {
			return "", api.ErrText
		}
		b.WriteRune(r)
	}
	return b.String(), api.OK
}

// Len returns the number of characters of a text, and 0 for a string that is none.
func Len(s string) int {
	if !IsText(s) {
		return 0
	}
	return utf8.RuneCountInString(s)
}

// Cut returns the characters of a text with the places from `from` on and before `to`.
func Cut(s string, from, to int) string {
	from = max(from, 0)
	if from >= to || !IsText(s) {
		return ""
	}
	begin, end, place := len(s), len(s), 0
	for i := range s {
		if place == from {
			begin = i
		}
		if place == to {
			end = i
			break
		}
		place++
	}
	return s[begin:end]
}

// isChar reports whether r is a character.
func isChar(r rune) bool {
	switch {
	case r < 0x20:
		return isWhite(r)
	case r <= 0xD7FF, r >= 0xE000 && r <= 0xFFFD, r >= 0x10000 && r <= utf8.MaxRune:
		return true
	}
	return false
}

// isWhite reports whether r is white space.
func isWhite(r rune) bool {
	return r == ' ' || r == '\t' || r == '\n' || r == '\r'
}

// isPart reports whether a text is a part of a name.
func isPart(s string) bool {
	for i, r := range s {
		if !isLetter(r) && (i == 0 || !isLater(r)) {
			return false
		}
	}
	return s != ""
}

// isLetter reports whether a character is a letter.
func isLetter(r rune) bool {
	switch {
	case r >= 'A' && r <= 'Z', r >= 'a' && r <= 'z', r == '_':
		return true
	}
	return r >= 0xC0 && r != 0xD7 && r != 0xF7
}

// isLater reports whether a character is one of those that a name can have after its first letter, and is no letter.
func isLater(r rune) bool {
	return r >= '0' && r <= '9' || r == '-' || r == '.' || r == 0xB7
}
