package regex

import (
	"iter"
	"strings"
)

// insert is a part of what replaces a match: a plain text, and after it what a group passed.
type insert struct {
	plain string
	group int
}

// readInserts divides an insertion at the groups that an expression with so many of them has; ok is false if it is not well formed.
func readInserts(with string, groups int) (l []insert, ok bool) {
	var plain strings.Builder
	sign := rune(0)
	for _, c := range with {
		switch {
		case sign == '$' && c >= '0' && c <= '9':
			if n := int(c - '0'); n <= groups {
				l = append(l, insert{plain.String(), n})
				plain.Reset()
			}
		case sign == '$', sign == '\\' && c != '$' && c != '\\':
			return nil, false
		case sign == 0 && (c == '$' || c == '\\'):
			sign = c
			continue
		default:
			plain.WriteRune(c)
		}
		sign = 0
	}
	if sign != 0 {
		return nil, false
	}
	return append(l, insert{plain.String(), noGroup}), true
}

// replaced goes over the parts of a text in which the matches with the bounds locs are replaced.
func replaced(text []rune, locs [][]int, l []insert) iter.Seq[string] {
	return func(yield func(string) bool) {
		last := 0
		for _, loc := range locs {
			if !yield(string(text[last:loc[0]])) {
				return
			}
			for _, x := range l {
				if !yield(x.plain) || !yield(passed(text, loc, x.group)) {
					return
				}
			}
			last = loc[1]
		}
		yield(string(text[last:]))
	}
}
