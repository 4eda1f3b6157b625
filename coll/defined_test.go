package coll_test

import (
	"math/rand/v2"
	"regexp"
	"slices"
	"strconv"
	"strings"
	"testing"

	"chisel/api"
	"chisel/coll"
)

// definition is a description, of which a test knows what it says, since it is written from that: so it does not depend on the reading of descriptions.
type definition struct {
	text     string
	strength int // 0: there is no line with it
	ignored  []rune
	listed   []rune
	signs    []string // before each of the listed characters; "" at the beginning of a line
}

// pick returns one of l.
func pick[T any](g *rand.Rand, l ...T) T { return l[g.IntN(len(l))] }

// alphabet returns characters, some of which have another meaning in a description.
func alphabet() []rune {
	return []rune("abcdeABCDE-'.123#<,;U+\u00e9\u00e7\u20ac\ufffd\U0001f600\U0010ffff \t\n\r")
}

// define makes a description with a strength by chance.
func define(g *rand.Rand, strength int) *definition {
	d := &definition{strength: strength}
	rest := alphabet()
	g.Shuffle(len(rest), func(i, k int) { rest[i], rest[k] = rest[k], rest[i] })
	take := func() rune {
		c := rest[0]
		rest = rest[1:]
		return c
	}
	var lines [][]string
	for range g.IntN(6) {
		var words []string
		n := 1 + g.IntN(4)
		switch g.IntN(6) {
		case 0:
			words = pick(g, nil, []string{"#"}, []string{"#a", "<"}, []string{"#", "strength", "7"})
		case 1:
			words = append(words, "ignore")
			for range n {
				d.ignored = append(d.ignored, take())
				words = append(words, written(g, d.ignored[len(d.ignored)-1], false))
			}
		default:
			for i := range n {
				sign := ""
				if i > 0 {
					sign = pick(g, "<", ",", ";", ";")
					words = append(words, sign)
				}
				d.listed, d.signs = append(d.listed, take()), append(d.signs, sign)
				words = append(words, written(g, d.listed[len(d.listed)-1], i == 0))
			}
		}
		lines = append(lines, words)
	}
	if strength > 0 {
		lines = slices.Insert(lines, g.IntN(len(lines)+1), []string{"strength", strconv.Itoa(strength)})
	}
	d.text = described(g, lines)
	return d
}

// described returns a description that consists of lines of words, with blanks by chance.
func described(g *rand.Rand, lines [][]string) string {
	var l []string
	for _, words := range lines {
		blank := pick(g, " ", " ", "  ", "    ")
		l = append(l, pick(g, "", "", blank)+strings.Join(words, blank)+pick(g, "", "", blank))
	}
	return strings.Join(l, "\n")
}

// written returns a word for a character, perhaps the first one of its line.
func written(g *rand.Rand, c rune, first bool) string {
	if g.IntN(4) > 0 && !strings.ContainsRune("<,; \n", c) && !(first && c == '#') {
		return string(c)
	}
	digits := strconv.FormatInt(int64(c), 16)
	if g.IntN(2) == 0 {
		digits = strings.ToUpper(digits)
	}
	return "U+" + strings.Repeat("0", g.IntN(6-len(digits)+1)) + digits
}

// weigh returns the three weights of a character, or nothing for one that is ignored.
func (d *definition) weigh(c rune) []int {
	if slices.Contains(d.ignored, c) {
		return nil
	}
	starts := func(sign string) bool { return sign == "<" || sign == "" }
	i := slices.Index(d.listed, c)
	if i < 0 {
		w := []int{int(c) + 1, 1, 1}
		for _, sign := range d.signs {
			if starts(sign) {
				w[0]++
			}
		}
		return w
	}
	w := []int{0, 1, 1}
	for _, sign := range d.signs[:i+1] {
		if starts(sign) {
			w[0]++
		}
	}
	k := i
	for ; d.signs[k] == ";"; k-- {
		w[2]++
	}
	for ; !starts(d.signs[k]); k-- {
		if d.signs[k] == "," {
			w[1]++
		}
	}
	return w
}

// key returns the key of a text.
func (d *definition) key(s string) []byte {
	strength := d.strength
	if strength == 0 {
		strength = 3
	}
	var l []int
	for level := range strength {
		if level > 0 {
			l = append(l, 0)
		}
		for _, c := range []rune(s) {
			if w := d.weigh(c); w != nil {
				l = append(l, w[level])
			}
		}
	}
	return bytesOf(l...)
}

// bytesOf returns numbers as the bytes of a key.
func bytesOf(l ...int) []byte {
	var b []byte
	for _, n := range l {
		b = append(b, byte(n/65536), byte(n/256%256), byte(n%256))
	}
	return b
}

// before reports whether a key comes before another one.
func before(a, b []byte) bool {
	for i := range min(len(a), len(b)) {
		if a[i] != b[i] {
			return a[i] < b[i]
		}
	}
	return len(a) < len(b)
}

// someText returns a text by chance, with listed, ignored and other characters.
func someText(g *rand.Rand) string {
	var b strings.Builder
	for range g.IntN(6) {
		b.WriteRune(pick(g, append(alphabet(), 'x', 'y', '\u00e0', '\U00010000')...))
	}
	return b.String()
}

// char is how a character is written.
const char = `(?:U\+[0-9A-Fa-f]{1,6}|[^ <,;])`

// oneWord is the form of a word.
var oneWord = regexp.MustCompile(`[^ ]+`)

// forms are the forms of a line, as the chapter lists them.
var forms = []*regexp.Regexp{
	regexp.MustCompile(`^ *(?:#.*)?$`), regexp.MustCompile(`^ *strength +[123] *$`),
	regexp.MustCompile(`^ *ignore(?: +` + char + `)+ *$`), regexp.MustCompile(`^ *` + char + `(?: +[<,;] +` + char + `)* *$`),
}

// verdict returns what is wrong with a description, by the forms of its lines.
func verdict(text string) (line int, e api.Errno) {
	strengths, seen := 0, map[int]bool{}
	for i, l := range strings.Split(text, "\n") {
		form := slices.IndexFunc(forms, func(f *regexp.Regexp) bool { return f.MatchString(l) })
		if form == 0 {
			continue
		}
		points, ok := pointsOf(l, form)
		if form < 0 || !ok {
			return i + 1, api.ErrForm
		}
		if form == 1 {
			strengths++
		}
		twice := strengths > 1
		for _, c := range points {
			twice = twice || seen[c]
			seen[c] = true
		}
		if twice {
			return i + 1, api.ErrTwice
		}
		if len(seen) > 4096 {
			return i + 1, api.ErrLong
		}
	}
	return 0, api.OK
}

// pointsOf returns the code points that are written in a line of a form, and whether all of them are characters.
func pointsOf(line string, form int) (l []int, ok bool) {
	if form < 2 {
		return nil, true
	}
	for i, s := range oneWord.FindAllString(line, -1) {
		if form == 2 && i == 0 || form == 3 && i%2 == 1 {
			continue
		}
		c := int([]rune(s)[0])
		if digits, ok := strings.CutPrefix(s, "U+"); ok {
			n, _ := strconv.ParseInt(digits, 16, 32)
			c = int(n)
		}
		if c < 32 && c != 9 && c != 10 && c != 13 || c >= 0xD800 && c < 0xE000 || c == 0xFFFE || c == 0xFFFF || c > 0x10FFFF {
			return nil, false
		}
		l = append(l, c)
	}
	return l, true
}

// someWrong returns a description by chance that mostly is wrong, and nearly right.
func someWrong(g *rand.Rand) string {
	word := func() string {
		return pick(g, "a", "b", "A", "\u00e9", "\t", "1", "U+61", "U+00e9", "U+9", "U", "+", "#", "#a", "<", ",", ";", "U+", "U+D7FF", "U+D800", "U+e000", "U+10FFFF", "U+110000", "U+0000061", "U+0", "U+8", "U+g", "u+61", "ab", "<,", "strength", "ignore", "4")
	}
	var lines [][]string
	for range 1 + g.IntN(4) {
		var words []string
		n := 1 + g.IntN(4)
		switch g.IntN(5) {
		case 0:
			words = []string{"strength", pick(g, "1", "2", "3", word())}
		case 1:
			words = append(words, "ignore")
			for range n {
				words = append(words, pick(g, "c", "d", "e", "f", word()))
			}
		case 2:
			for range n {
				words = append(words, word())
			}
		default:
			for range n {
				words = append(words, pick(g, "x", "y", "z", "U+7A", word()), pick(g, "<", ",", ";", ",", word()))
			}
			words = words[:len(words)-pick(g, 0, 1, 1, 1)]
		}
		lines = append(lines, words)
	}
	return described(g, lines)
}

// table returns the collation of a description that must be one.
func table(t testing.TB, text string) *coll.Table {
	t.Helper()
	u, line, e := coll.Parse(text)
	if u == nil || line != 0 || e != api.OK {
		t.Fatalf("Parse of %q: %v, %d, %d", text, u, line, e)
	}
	return u
}
