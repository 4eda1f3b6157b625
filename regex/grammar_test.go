package regex_test

import (
	"math/big"
	"math/rand/v2"
	"strings"
	"testing"

	"chisel/api"
	"chisel/regex"
)

// grammar is the form of patterns as the chapter gives it: each rule returns all places in the text at which what it describes can end, if it begins at a place.
type grammar []rune

type ends map[int]bool

// cat returns the ends of one rule after the other.
func cat(i int, rules ...func(i int) ends) ends {
	l := ends{i: true}
	for _, rule := range rules {
		m := ends{}
		for j := range l {
			for k := range rule(j) {
				m[k] = true
			}
		}
		l = m
	}
	return l
}

// either returns the ends of all rules.
func either(i int, rules ...func(i int) ends) ends {
	l := ends{}
	for _, rule := range rules {
		for j := range rule(i) {
			l[j] = true
		}
	}
	return l
}

// many returns the ends of any number of times of a rule that takes at least one character.
func many(rule func(i int) ends) func(i int) ends {
	return func(i int) ends {
		l := ends{i: true}
		for todo := []int{i}; len(todo) > 0; todo = todo[1:] {
			for j := range rule(todo[0]) {
				if !l[j] {
					l[j] = true
					todo = append(todo, j)
				}
			}
		}
		return l
	}
}

func (g grammar) char(f func(c rune) bool) func(i int) ends {
	return func(i int) ends {
		if i < len(g) && f(g[i]) {
			return ends{i + 1: true}
		}
		return nil
	}
}

func (g grammar) of(l string) func(i int) ends {
	return g.char(func(c rune) bool { return strings.ContainsRune(l, c) })
}

func (g grammar) but(l string) func(i int) ends {
	return g.char(func(c rune) bool { return !strings.ContainsRune(l, c) })
}

func nothing(i int) ends { return ends{i: true} }

func (g grammar) pattern(i int) ends {
	return cat(i, g.branch, many(func(i int) ends { return cat(i, g.of("|"), g.branch) }))
}

func (g grammar) branch(i int) ends { return many(g.piece)(i) }

func (g grammar) piece(i int) ends {
	return either(i, g.atom, func(i int) ends { return cat(i, g.atom, g.quantifier) })
}

func (g grammar) atom(i int) ends {
	return either(i, g.but(`.\?*+{}()[]|^$`), g.of("."), g.escape, g.class, g.of("^$"),
		func(i int) ends { return cat(i, g.of("("), g.pattern, g.of(")")) },
		func(i int) ends { return cat(i, g.of("("), g.of("?"), g.of(":"), g.pattern, g.of(")")) })
}

func (g grammar) escape(i int) ends {
	return cat(i, g.of(`\`), g.of(`nrt.\?*+{}()[]|^$-dswDSW`))
}

func (g grammar) class(i int) ends {
	return either(i, func(i int) ends { return cat(i, g.of("["), g.of("^"), g.member, many(g.member), g.of("]")) }, func(i int) ends {
		if i+1 < len(g) && g[i+1] == '^' {
			return nil
		}
		return cat(i, g.of("["), g.member, many(g.member), g.of("]"))
	})
}

func (g grammar) member(i int) ends {
	l := either(i, g.but(`\[]-`), g.escape)
	// The sizes of the two characters of a range are 1, or 2 for an escape.
	for _, m := range []int{1, 2} {
		for _, n := range []int{1, 2} {
			low, ok := g.single(i, m)
			high, ok2 := g.single(i+m+1, n)
			if ok && ok2 && g[i+m] == '-' && low <= high {
				l[i+m+1+n] = true
			}
		}
	}
	return l
}

// single returns the character that n characters from a place on stand for.
func (g grammar) single(i, n int) (rune, bool) {
	switch {
	case i+n > len(g):
		return 0, false
	case n == 1:
		return g[i], !strings.ContainsRune(`\[]-`, g[i])
	case g[i] != '\\':
		return 0, false
	}
	switch g[i+1] {
	case 'n':
		return 10, true
	case 'r':
		return 13, true
	case 't':
		return 9, true
	}
	return g[i+1], strings.ContainsRune(`.\?*+{}()[]|^$-`, g[i+1])
}

func (g grammar) quantifier(i int) ends {
	return cat(i, func(i int) ends { return either(i, g.of("*+?"), g.braces) }, func(i int) ends { return either(i, nothing, g.of("?")) })
}

func (g grammar) braces(i int) ends {
	digits := func(i int) ends { return cat(i, g.of("0123456789"), many(g.of("0123456789"))) }
	l := either(i, func(i int) ends { return cat(i, g.of("{"), digits, g.of("}")) }, func(i int) ends { return cat(i, g.of("{"), digits, g.of(","), g.of("}")) })
	for j := range cat(i, g.of("{"), digits, g.of(","), digits, g.of("}")) {
		low, high, _ := strings.Cut(string(g[i+1:j-1]), ",")
		n, _ := new(big.Int).SetString(low, 10)
		m, _ := new(big.Int).SetString(high, 10)
		if n.Cmp(m) <= 0 {
			l[j] = true
		}
	}
	return l
}

// checkForm compares Compile with the grammar.
func checkForm(t *testing.T, pattern string) (formed bool) {
	t.Helper()
	g := grammar(pattern)
	formed = g.pattern(0)[len(g)]
	r, e := regex.Compile(pattern, "")
	// Whatever is above a limit is well formed.
	if formed != (e == api.OK || e == api.ErrLong) || !formed && e != api.ErrForm || (r == nil) != (e != api.OK) {
		t.Fatalf("Compile of %q: %d; well formed: %v", pattern, e, formed)
	}
	return formed
}

// P2.1: all short patterns of the characters that mean something.
func TestShortPatterns(t *testing.T) {
	all := []string{""}
	last := all
	for range 4 {
		var longer []string
		for _, s := range last {
			for _, c := range `an\.-[]^$()?:*{},1|` {
				longer = append(longer, s+string(c))
			}
		}
		all = append(all, longer...)
		last = longer
	}
	formed := 0
	for _, s := range all {
		formed += btoi(checkForm(t, s))
	}
	if formed < 10000 || formed > len(all)/2 {
		t.Error("well formed:", formed)
	}
}

// P2.1: longer patterns by chance, and well formed ones in which a character was changed, left out or added.
func TestLongPatterns(t *testing.T) {
	g := rand.New(rand.NewPCG(3, 4))
	tokens := []string{"a", "b", "-", "a-b", "b-a", "^", "$", ".", "|", "(", "(", "(?:", ")", ")", "[", "[", "[^", "]", "]", "*", "+", "?", "{1}", "{2,}", "{2,1}", "{1,2}", "{", "}", ",", "0", "101", `\n`, `\d`, `\W`, `\-`, `\]`, `\`, ":", " ", "\n", "\u20ac", `\n-a`, `a-\d`}
	formed := 0
	for range 8000 {
		s := ""
		for range g.IntN(12) {
			s += pick(g, tokens...)
		}
		formed += btoi(checkForm(t, s))
		l := []rune(define(g).root.String())
		at := g.IntN(len(l) + 1)
		c := []rune(pick(g, tokens...))
		switch {
		case at == len(l) || g.IntN(3) == 0:
			l = append(l[:at:at], append(c, l[at:]...)...)
		case g.IntN(2) == 0:
			l = append(l[:at:at], l[at+1:]...)
		default:
			l = append(l[:at:at], append(c, l[at+1:]...)...)
		}
		formed += btoi(checkForm(t, string(l)))
	}
	if formed < 2000 || formed > 12000 {
		t.Error("well formed:", formed)
	}
}
