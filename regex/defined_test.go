package regex_test

import (
	"math/rand/v2"
	"slices"
	"strconv"
	"strings"
	"testing"

	"chisel/api"
	"chisel/chars"
	"chisel/regex"
)

// The kinds of nodes.
const (
	one = iota // a character, an escape or a class
	first
	last
	group
	plain // (?: and )
	row
	branches
	repeated
)

// node is a part of a pattern, of which the ways are known by the definitions of the chapter. A test makes it, and the pattern is written from it: so it does not depend on the reading of patterns.
type node struct {
	kind        int
	text        string
	has         func(c rune) bool
	n           int // the number of a group
	inner       []*node
	least, most int // most -1: there is no greatest number
	lazy        bool
}

// definition is a pattern with its text and flags.
type definition struct {
	root                 *node
	flags                string
	lines, all, anyOther bool // the flags m, s and i
	groups, steps        int
}

// pick returns one of l.
func pick[T any](g *rand.Rand, l ...T) T { return l[g.IntN(len(l))] }

// define makes a pattern by chance.
func define(g *rand.Rand) *definition {
	d := &definition{}
	for _, c := range "imsx" {
		if g.IntN(3) == 0 {
			d.flags += string(c)
		}
	}
	d.lines, d.all, d.anyOther = strings.Contains(d.flags, "m"), strings.Contains(d.flags, "s"), strings.Contains(d.flags, "i")
	d.root = d.pattern(g, 3)
	return d
}

func (d *definition) pattern(g *rand.Rand, depth int) *node {
	x := &node{kind: branches}
	for range pick(g, 1, 1, 1, 2, 2, 3) {
		y := &node{kind: row}
		for range pick(g, 0, 1, 1, 1, 2, 2, 3) {
			y.inner = append(y.inner, d.piece(g, depth))
		}
		x.inner = append(x.inner, y)
	}
	return x
}

func (d *definition) piece(g *rand.Rand, depth int) *node {
	x := d.atom(g, depth)
	if g.IntN(5) < 3 {
		return x
	}
	y := &node{kind: repeated, inner: []*node{x}, most: -1, lazy: g.IntN(3) == 0}
	switch g.IntN(6) {
	case 0:
		y.text = "*"
	case 1:
		y.text, y.least = "+", 1
	case 2:
		y.text, y.most = "?", 1
	case 3:
		y.least = g.IntN(4)
		y.text, y.most = "{"+strconv.Itoa(y.least)+"}", y.least
	case 4:
		y.least = g.IntN(3)
		y.text = "{" + strconv.Itoa(y.least) + ",}"
	case 5:
		y.least = g.IntN(3)
		y.most = y.least + g.IntN(3)
		y.text = "{" + strconv.Itoa(y.least) + "," + strconv.Itoa(y.most) + "}"
	}
	return y
}

func (d *definition) atom(g *rand.Rand, depth int) *node {
	if depth > 0 && g.IntN(3) == 0 {
		if g.IntN(3) == 0 {
			return &node{kind: plain, inner: []*node{d.pattern(g, depth-1)}}
		}
		d.groups++
		n := d.groups
		return &node{kind: group, n: n, inner: []*node{d.pattern(g, depth-1)}}
	}
	in := func(l string) func(c rune) bool { return func(c rune) bool { return d.in(l, c) } }
	not := func(l string) func(c rune) bool { return func(c rune) bool { return !d.in(l, c) } }
	return pick(g,
		&node{text: "a", has: in("a")}, &node{text: "a", has: in("a")}, &node{text: "b", has: in("b")}, &node{text: "b", has: in("b")}, &node{text: `\n`, has: in("\n")}, &node{text: "[ab]", has: in("ab")}, &node{text: "[^a]", has: not("a")}, &node{text: "[^A-Z]", has: not("ABCDEFGHIJKLMNOPQRSTUVWXYZ")}, &node{text: "[a-c\\n]", has: in("abc\n")},
		&node{text: ".", has: func(c rune) bool { return d.all || c != '\n' && c != '\r' }}, &node{text: `\s`, has: in(" \t\r\n")}, &node{text: `\S`, has: func(c rune) bool { return !strings.ContainsRune(" \t\r\n", c) }}, &node{text: `\w`, has: chars1(chars.IsName)}, &node{text: "\u20ac", has: in("\u20ac")},
		&node{text: "^", kind: first}, &node{text: "$", kind: last})
}

// chars1 is a condition on the text of one character.
func chars1(f func(s string) bool) func(c rune) bool {
	return func(c rune) bool { return f(string(c)) }
}

// in reports whether c is in l, or, with the flag i, its other case is.
func (d *definition) in(l string, c rune) bool {
	if strings.ContainsRune(l, c) {
		return true
	}
	letter := c >= 'a' && c <= 'z' || c >= 'A' && c <= 'Z'
	return d.anyOther && letter && strings.ContainsRune(l, c^0x20)
}

// String returns the text of a node.
func (x *node) String() string {
	inner := make([]string, len(x.inner))
	for i, y := range x.inner {
		inner[i] = y.String()
	}
	switch x.kind {
	case group:
		return "(" + inner[0] + ")"
	case plain:
		return "(?:" + inner[0] + ")"
	case row:
		return strings.Join(inner, "")
	case branches:
		return strings.Join(inner, "|")
	case repeated:
		return inner[0] + x.text + strings.Repeat("?", btoi(x.lazy))
	}
	return x.text
}

// weight returns the weight of a node.
func (x *node) weight() int {
	sum := 0
	for _, y := range x.inner {
		sum += y.weight()
	}
	switch x.kind {
	case group, plain:
		return sum + 1
	case row:
		return sum
	case branches:
		return sum + len(x.inner) - 1
	case repeated:
		if x.most < 0 {
			return sum * (x.least + 1)
		}
		return sum * max(x.most, 1)
	}
	return 1
}

// tooMany is what the definition gives up with, when there are too many ways to go through all of them.
type tooMany struct{}

// ways calls yield with each way of a node from a place on, in order: where it ends, and the bounds of the groups. It ends, and returns true, when yield returns true.
func (d *definition) ways(x *node, text []rune, place int, bounds []int, yield func(place int, bounds []int) bool) bool {
	if d.steps++; d.steps > 200000 {
		panic(tooMany{})
	}
	switch x.kind {
	case one:
		return place < len(text) && x.has(text[place]) && yield(place+1, bounds)
	case first:
		return (place == 0 || d.lines && text[place-1] == '\n') && yield(place, bounds)
	case last:
		return (place == len(text) || d.lines && text[place] == '\n') && yield(place, bounds)
	case group:
		return d.ways(x.inner[0], text, place, bounds, func(to int, bounds []int) bool {
			bounds = slices.Clone(bounds)
			bounds[2*x.n], bounds[2*x.n+1] = place, to
			return yield(to, bounds)
		})
	case plain:
		return d.ways(x.inner[0], text, place, bounds, yield)
	case row:
		if len(x.inner) == 0 {
			return yield(place, bounds)
		}
		others := &node{kind: row, inner: x.inner[1:]}
		return d.ways(x.inner[0], text, place, bounds, func(to int, bounds []int) bool { return d.ways(others, text, to, bounds, yield) })
	case branches:
		return slices.ContainsFunc(x.inner, func(y *node) bool { return d.ways(y, text, place, bounds, yield) })
	}
	return d.times(x, 0, text, place, bounds, yield)
}

// times calls yield with each way of what is repeated, of which some number of repetitions have been done.
func (d *definition) times(x *node, made int, text []rune, place int, bounds []int, yield func(place int, bounds []int) bool) bool {
	rest := func(to int, bounds []int) bool { return d.times(x, made+1, text, to, bounds, yield) }
	if made < x.least {
		return d.ways(x.inner[0], text, place, bounds, rest)
	}
	if x.most >= 0 && made >= x.most {
		return yield(place, bounds)
	}
	again := func() bool {
		return d.ways(x.inner[0], text, place, bounds, func(to int, bounds []int) bool { return to != place && rest(to, bounds) })
	}
	if x.lazy {
		return yield(place, bounds) || again()
	}
	return again() || yield(place, bounds)
}

// find returns the bounds of the match from a place on, or nil; known is false if there are too many ways.
func (d *definition) find(s string, from int) (loc []int, known bool) {
	defer func() {
		if x := recover(); x != nil && x != (tooMany{}) {
			panic(x)
		}
	}()
	d.steps = 0
	text := []rune(s)
	none := slices.Repeat([]int{-1}, 2*d.groups+2)
	for place := from; place <= len(text); place++ {
		if d.ways(d.root, text, place, none, func(to int, bounds []int) bool {
			loc = slices.Clone(bounds)
			loc[0], loc[1] = place, to
			return true
		}) {
			break
		}
	}
	return loc, true
}

// someText returns a short text by chance.
func someText(g *rand.Rand) string {
	s := ""
	for range g.IntN(9) {
		s += pick(g, "a", "a", "b", "b", "A", "\n", "c", "\u20ac", " ")
	}
	return s
}

// P2.1 to P2.5: patterns by chance, against the definitions.
func TestDefinitions(t *testing.T) {
	g := rand.New(rand.NewPCG(1, 2))
	found, unknown := 0, 0
	for range 30000 {
		d := define(g)
		pattern := d.root.String()
		r, e := regex.Compile(pattern, d.flags)
		if e != api.OK {
			t.Fatalf("Compile of %q: %d", pattern, e)
		}
		if n := longest(d.root.weight()); !r.Fits(strings.Repeat("a", n)) || r.Fits(strings.Repeat("a", n+1)) {
			t.Fatalf("%q has not the weight %d", pattern, d.root.weight())
		}
		empty, known := d.find("", 0)
		if !known {
			unknown++
			continue
		}
		for range 4 {
			s := someText(g)
			from := g.IntN(chars.Len(s) + 1)
			want, known := d.find(s, from)
			if !known {
				unknown++
				continue
			}
			loc, ok := r.Find(s, from)
			if ok != (want != nil) || !slices.Equal(loc, want) {
				t.Fatalf("%q with %q in %q from %d: %v, not %v", pattern, d.flags, s, from, loc, want)
			}
			found += btoi(ok)
			checkParts(t, d, r, s, empty != nil)
		}
	}
	if found < 50000 || unknown > 1000 {
		t.Error("too few patterns can be compared", found, unknown)
	}
}

// checkParts compares Match, Replace, Tokens and Pieces with the matches by the definition.
func checkParts(t *testing.T, d *definition, r *regex.Regex, s string, empty bool) {
	t.Helper()
	some, known := d.find(s, 0)
	if known && r.Match(s) != (some != nil) {
		t.Fatalf("Match of %q in %q", d.root, s)
	}
	var tokens []string
	var pieces []regex.Piece
	result := ""
	last := 0
	if !empty {
		for {
			loc, known := d.find(s, last)
			if !known {
				return
			}
			if loc == nil {
				break
			}
			tokens = append(tokens, chars.Cut(s, last, loc[0]))
			if last < loc[0] {
				pieces = append(pieces, regex.Piece{Text: chars.Cut(s, last, loc[0])})
			}
			x := regex.Piece{Text: chars.Cut(s, loc[0], loc[1]), Match: true}
			for i := 1; i <= d.groups; i++ {
				x.Groups = append(x.Groups, chars.Cut(s, loc[2*i], loc[2*i+1]))
			}
			pieces = append(pieces, x)
			result += chars.Cut(s, last, loc[0]) + "<" + x.Text + "," + strings.Join(append(x.Groups, "")[:1], "") + "$>"
			last = loc[1]
		}
		tokens = append(tokens, chars.Cut(s, last, len(s)))
		result += chars.Cut(s, last, len(s))
		if last < chars.Len(s) {
			pieces = append(pieces, regex.Piece{Text: chars.Cut(s, last, len(s))})
		}
	}
	want := api.OK
	if empty {
		want = api.ErrEmpty
	}
	l, e := r.Tokens(s)
	m, f := r.Pieces(s)
	u, h := r.Replace(s, `<$0,$1\$>`)
	if e != want || f != want || h != want || !slices.Equal(l, tokens) || u != result {
		t.Fatalf("%q with %q in %q: %q, %d, %q, %d", d.root, d.flags, s, l, e, u, h)
	}
	if !slices.EqualFunc(m, pieces, func(a, b regex.Piece) bool {
		return a.Text == b.Text && a.Match == b.Match && slices.Equal(a.Groups, b.Groups)
	}) {
		t.Fatalf("%q with %q in %q: %v, not %v", d.root, d.flags, s, m, pieces)
	}
}
