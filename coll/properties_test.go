package coll_test

import (
	"bytes"
	"fmt"
	"math/rand/v2"
	"slices"
	"strings"
	"testing"

	"chisel/coll"
)

// each calls f with descriptions by chance, and their collations.
func each(t *testing.T, n int, f func(g *rand.Rand, d *definition, u *coll.Table)) {
	g := rand.New(rand.NewPCG(7, 8))
	for range n {
		d := define(g, g.IntN(4))
		f(g, d, table(t, d.text))
	}
}

// P3.4: Compare is a total order of keys.
func TestOrder(t *testing.T) {
	equal := 0
	each(t, 5000, func(g *rand.Rand, d *definition, u *coll.Table) {
		a, b, c := someText(g), someText(g), someText(g)
		for _, x := range [][2]string{{a, b}, {b, c}, {a, c}, {a, a}} {
			if u.Compare(x[0], x[1]) != -u.Compare(x[1], x[0]) || (u.Compare(x[0], x[1]) == 0) != bytes.Equal(u.Key(x[0]), u.Key(x[1])) {
				t.Fatalf("%q: %q and %q", d.text, x[0], x[1])
			}
		}
		l := []string{a, b, c, someText(g), a}
		slices.SortFunc(l, u.Compare)
		for i := range l {
			for k := range i {
				if u.Compare(l[k], l[i]) == 1 {
					t.Fatalf("%q: %q is after %q", d.text, l[k], l[i])
				}
				if u.Compare(l[k], l[i]) == 0 {
					equal++
				}
			}
		}
	})
	if equal < 100 {
		t.Error("equal:", equal)
	}
}

// withStrength returns the collations of a description for each strength.
func withStrength(t *testing.T, text string) []*coll.Table {
	var l []*coll.Table
	for n := range 3 {
		l = append(l, table(t, fmt.Sprintf("strength %d\n%s", n+1, text)))
	}
	return l
}

// P3.5: texts that differ for a strength differ in the same way for a greater one; those with equal first weights are equal for the strength 1.
func TestLevels(t *testing.T) {
	g := rand.New(rand.NewPCG(9, 10))
	later := 0
	for range 10000 {
		d := define(g, 0)
		l := withStrength(t, d.text)
		a, b := someText(g), someText(g)
		if g.IntN(2) == 0 && len(d.listed) > 0 {
			// Texts that perhaps differ only in what one sign distinguishes.
			i := g.IntN(len(d.listed))
			b, a = a+string(d.listed[i]), a+string(d.listed[max(i-1, 0)])
		}
		for n := range 2 {
			less, more := l[n].Compare(a, b), l[n+1].Compare(a, b)
			if less != 0 && more != less {
				t.Fatalf("%q: %q and %q: %d, then %d", d.text, a, b, less, more)
			}
			if less == 0 && more != 0 {
				later++
			}
		}
		first := func(s string) (l []int) {
			for _, c := range s {
				if w := d.weigh(c); w != nil {
					l = append(l, w[0])
				}
			}
			return l
		}
		if (l[0].Compare(a, b) == 0) != slices.Equal(first(a), first(b)) {
			t.Fatalf("%q: %q and %q for the strength 1", d.text, a, b)
		}
		if none := table(t, d.text); !bytes.Equal(none.Key(a), l[2].Key(a)) {
			t.Fatalf("%q: %q without a strength", d.text, a)
		}
	}
	if later < 500 {
		t.Error("later:", later)
	}
}

// P3.6: a text without its ignored characters has the same key.
func TestIgnored(t *testing.T) {
	shorter := 0
	each(t, 10000, func(g *rand.Rand, d *definition, u *coll.Table) {
		s := someText(g)
		without := strings.Map(func(c rune) rune {
			if slices.Contains(d.ignored, c) {
				return -1
			}
			return c
		}, s)
		if len(without) < len(s) {
			shorter++
		}
		if !bytes.Equal(u.Key(s), u.Key(without)) || u.Compare(s, without) != 0 {
			t.Fatalf("%q: %q and %q", d.text, s, without)
		}
	})
	if shorter < 500 {
		t.Error("shorter:", shorter)
	}
}

// P3.7: a text does not come after the same text with further characters.
func TestPrefixes(t *testing.T) {
	each(t, 10000, func(g *rand.Rand, d *definition, u *coll.Table) {
		s, more := someText(g), someText(g)
		if u.Compare(s, s+more) == 1 || u.Compare("", s) == 1 {
			t.Fatalf("%q: %q and %q", d.text, s, s+more)
		}
	})
}

// P3.8: texts of characters that are neither listed nor ignored are in the order of their code points.
func TestCodePoints(t *testing.T) {
	each(t, 10000, func(g *rand.Rand, d *definition, u *coll.Table) {
		other := func(s string) string {
			return strings.Map(func(c rune) rune {
				if slices.Contains(d.ignored, c) || slices.Contains(d.listed, c) {
					return 'y'
				}
				return c
			}, s)
		}
		a, b := other(someText(g)), other(someText(g))
		// The order of code points is that of the bytes of texts.
		if u.Compare(a, b) != strings.Compare(a, b) {
			t.Fatalf("%q: %q and %q: %d", d.text, a, b, u.Compare(a, b))
		}
	})
}
