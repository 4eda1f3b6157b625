package regex

import "unicode/utf8"

// pair is the least and the greatest of a range of characters.
type pair [2]rune

// set is a set of characters: those in one of the pairs, or, with not, all others. With fold, the letters A to Z and a to z are in a pair if the same letter of the other case is.
type set struct {
	pairs     []pair
	fold, not bool
}

// has reports whether c is in the set.
func (s set) has(c rune) bool {
	in := inPairs(s.pairs, c)
	if !in && s.fold {
		in = inPairs(s.pairs, otherCase(c))
	}
	return in != s.not
}

// inPairs reports whether c is in one of the pairs.
func inPairs(l []pair, c rune) bool {
	for _, p := range l {
		if p[0] <= c && c <= p[1] {
			return true
		}
	}
	return false
}

// otherCase returns the same letter of the other case for the letters A to Z and a to z, and any other character itself.
func otherCase(c rune) rune {
	switch {
	case c >= 'a' && c <= 'z':
		return c - 'a' + 'A'
	case c >= 'A' && c <= 'Z':
		return c - 'A' + 'a'
	}
	return c
}

// single returns the pair of one character.
func single(c rune) []pair {
	return []pair{{c, c}}
}

// named returns the characters that a letter stands for in an escape, nil if it stands for none.
func named(letter rune) []pair {
	switch letter {
	case 'n':
		return single('\n')
	case 'r':
		return single('\r')
	case 't':
		return single('\t')
	case 'd':
		return []pair{{'0', '9'}}
	case 's':
		return []pair{{'\t', '\n'}, {'\r', '\r'}, {' ', ' '}}
	case 'w':
		return []pair{{'0', '9'}, {'A', 'Z'}, {'_', '_'}, {'a', 'z'}, {0xC0, 0xD6}, {0xD8, 0xF6}, {0xF8, utf8.MaxRune}}
	case 'D', 'S', 'W':
		return others(named(otherCase(letter)))
	}
	return nil
}

// others returns the pairs of all characters that are in none of l, which are in order and apart.
func others(l []pair) []pair {
	var m []pair
	low := rune(0)
	for _, p := range l {
		if low < p[0] {
			m = append(m, pair{low, p[0] - 1})
		}
		low = p[1] + 1
	}
	if low <= utf8.MaxRune {
		m = append(m, pair{low, utf8.MaxRune})
	}
	return m
}
