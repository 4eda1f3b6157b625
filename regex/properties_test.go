package regex_test

import (
	"math/rand/v2"
	"slices"
	"strings"
	"testing"
	"time"

	"chisel/api"
	"chisel/chars"
	"chisel/regex"
)

// each calls f with expressions and texts by chance.
func each(t *testing.T, n int, f func(g *rand.Rand, d *definition, r *regex.Regex, s string)) {
	g := rand.New(rand.NewPCG(5, 6))
	for range n {
		d := define(g)
		r := compile(t, d.root.String(), d.flags)
		for range 3 {
			f(g, d, r, someText(g))
		}
	}
}

// same reports whether two expressions find the same in a text from each place on.
func same(t *testing.T, r, u *regex.Regex, s string) bool {
	t.Helper()
	for from := -1; from <= chars.Len(s)+1; from++ {
		loc, ok := r.Find(s, from)
		loc2, ok2 := u.Find(s, from)
		if ok != ok2 || !slices.Equal(loc, loc2) {
			return false
		}
	}
	return true
}

// P2.6: no match is empty, if the empty text does not match.
func TestNoEmptyMatches(t *testing.T) {
	checked := 0
	each(t, 10000, func(g *rand.Rand, d *definition, r *regex.Regex, s string) {
		if r.Match("") {
			return
		}
		checked++
		for from := range chars.Len(s) + 1 {
			if loc, ok := r.Find(s, from); ok && loc[0] == loc[1] {
				t.Fatalf("%q in %q from %d: %v", d.root, s, from, loc)
			}
		}
	})
	if checked < 10000 {
		t.Error("checked:", checked)
	}
}

// P2.7: the pieces, and the tokens with the matches between them, are the text.
func TestWhole(t *testing.T) {
	each(t, 10000, func(g *rand.Rand, d *definition, r *regex.Regex, s string) {
		if r.Match("") {
			return
		}
		pieces, e1 := r.Pieces(s)
		tokens, e2 := r.Tokens(s)
		back, e3 := r.Replace(s, "$0")
		whole, between := "", tokens[0]
		matches := 0
		for _, x := range pieces {
			whole += x.Text
			if x.Match {
				matches++
				between += x.Text + tokens[matches]
			}
		}
		if e1 != api.OK || e2 != api.OK || e3 != api.OK || whole != s || between != s || back != s || len(tokens) != matches+1 {
			t.Fatalf("%q in %q: %q, %q, %q", d.root, s, whole, between, back)
		}
	})
}

// P2.8: what Find returns is the leftmost match.
func TestLeftmost(t *testing.T) {
	each(t, 10000, func(g *rand.Rand, d *definition, r *regex.Regex, s string) {
		for from := range chars.Len(s) + 1 {
			loc, ok := r.Find(s, from)
			if !ok {
				loc = []int{chars.Len(s) + 1}
			}
			for place := from; place <= min(loc[0], chars.Len(s)); place++ {
				loc2, ok2 := r.Find(s, place)
				if ok2 != ok || ok && !slices.Equal(loc, loc2) {
					t.Fatalf("%q in %q from %d: %v, from %d: %v", d.root, s, from, loc, place, loc2)
				}
			}
		}
	})
}

// P2.9: sums and repetitions.
func TestSums(t *testing.T) {
	each(t, 10000, func(g *rand.Rand, d *definition, r *regex.Regex, s string) {
		p := d.root.String()
		q := define(g).root.String()
		if r2 := compile(t, q, d.flags); compile(t, p+"|"+q, d.flags).Match(s) != (r.Match(s) || r2.Match(s)) {
			t.Fatalf("%q and %q with %q in %q", p, q, d.flags, s)
		}
		if !same(t, r, compile(t, "(?:"+p+")", d.flags), s) {
			t.Fatalf("(?: and %q with %q in %q", p, d.flags, s)
		}
		u := compile(t, "("+p+")", d.flags)
		for from := range chars.Len(s) + 1 {
			loc, ok := r.Find(s, from)
			if ok {
				loc = slices.Insert(loc, 2, loc[0], loc[1])
			}
			if loc2, ok2 := u.Find(s, from); ok != ok2 || !slices.Equal(loc, loc2) {
				t.Fatalf("( and %q with %q in %q: %v, %v", p, d.flags, s, loc, loc2)
			}
		}
		// The groups of the second one have numbers of their own: so only the bounds of the match are the same.
		loc, ok := compile(t, "(?:"+p+"){2}", d.flags).Find(s, 0)
		loc2, ok2 := compile(t, "(?:"+p+")(?:"+p+")", d.flags).Find(s, 0)
		if ok != ok2 || ok && !slices.Equal(loc[:2], loc2[:2]) {
			t.Fatalf("two times %q with %q in %q: %v, %v", p, d.flags, s, loc, loc2)
		}
	})
}

// P2.10: patterns for which the ways grow exponentially, with the longest texts.
func TestTime(t *testing.T) {
	rep := strings.Repeat
	patterns := []string{
		"(?:a*)*b", "(?:a+)+b", "(?:a|a)*b", "(?:a|aa)+b", "(a?){50}a{50}b", "(?:a+a+)+b", "(?:(?:a*)*)*b", "(?:(a*?)*?)*?b", "(.*)(.*)(.*)(.*)(.*)(.*)(.*)b", ".*.*.*.*=.*", "(?:a{0,50}){50}b", "(?:(?:a{0,9}){0,9}){50}b", "(?:a|.|[ab]|\\w)+b", "(?:|a|aa)*b", "(a|b|ab)*bc", "(?:a?|b?)*d", "(?:(a)|(a))*(?:(a)|(a))*b", "(?:^|a)+b", "(?:a$?)*b",
		rep("(?:", 198) + "a" + rep(")*", 198) + "b", rep("(", 320) + "a" + rep(")*", 320) + "b", rep("(?:", 160) + "a?" + rep(")*?", 160) + "b", rep("(", 11) + "a+" + rep(")+", 11) + "b", rep("(?:", 100) + "a" + rep("|a)*", 100) + "b", rep("a?", 300) + rep("a", 300) + "b", rep("a*", 400) + "b", rep("(?:a|a)", 130) + "b", rep("(a*)", 200) + "b",
		"(?:a" + rep("(){100}", 95) + ")*b", "(?:a(?:" + rep("|", 400) + ")" + rep("(){100}", 80) + ")*b", "(?:a" + rep("(?:|){100}", 45) + ")*b", "(?:(?:a?){70}){70}b", "(?:(?:a|b?){30}){80}b", "(?:(?:(?:(a*)*)*){20}){20}b", "(?:a{100}){99}b", "[" + rep("b-z", 300) + "a]*b", "(?:" + rep("a|", 490) + "a)*b",
	}
	var l []*regex.Regex
	for _, pattern := range patterns {
		l = append(l, compile(t, pattern, ""), compile(t, pattern, "ims"))
	}
	done := make(chan bool)
	go func() {
		defer close(done)
		for i, r := range l {
			n := 0
			for r.Fits(rep("a", n+1)) {
				n++
			}
			for _, s := range []string{rep("a", n), rep("a", n-1) + "c", rep("ac", n/2), rep("\n", n)} {
				if r.Match(s) {
					t.Errorf("%.40q matches %.40q", patterns[i/2], s)
				}
			}
			if _, e := r.Tokens(rep("aac", n/3)); e != api.OK {
				t.Errorf("Tokens with %.40q: %d", patterns[i/2], e)
			}
		}
	}()
	select {
	case <-done:
	case <-time.After(5 * time.Minute):
		t.Fatal("the time grows exponentially")
	}
}

// P2.10: many matches, each after ways to the end of the text that are in vain.
func TestTimeOfMatches(t *testing.T) {
	r := compile(t, "a(?:.*b)?|a", "")
	n := longest(6)
	s := strings.Repeat("a", n)
	l, e := r.Tokens(s)
	if e != api.OK || len(l) != n+1 {
		t.Error(len(l), e)
	}
	u, e := compile(t, "(b?)a", "").Replace(s[:1000], strings.Repeat("$1$2$3", 10000))
	if u != "" || e != api.OK {
		t.Error(len(u), e)
	}
}
