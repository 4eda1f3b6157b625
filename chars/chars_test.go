package chars_test

import (
	"slices"
	"strings"
	"testing"

	"chisel/api"
	"chisel/chars"
)

// ranges reports whether c is in one of the ranges l, each from its first number to its second one.
func ranges(c int, l [][2]int) bool {
	return slices.ContainsFunc(l, func(r [2]int) bool { return r[0] <= c && c <= r[1] })
}

// isChar is the definition of a character, as the chapter lists the code points.
func isChar(c int) bool {
	return ranges(c, [][2]int{{9, 9}, {0xA, 0xA}, {0xD, 0xD}, {0x20, 0xD7FF}, {0xE000, 0xFFFD}, {0x10000, 0x10FFFF}})
}

// isLetter is the definition of a letter.
func isLetter(c int) bool {
	return isChar(c) && ranges(c, [][2]int{{'A', 'Z'}, {'a', 'z'}, {'_', '_'}, {0xC0, 0xD6}, {0xD8, 0xF6}, {0xF8, 0x10FFFF}})
}

// isLater is the definition of a name character.
func isLater(c int) bool {
	return isLetter(c) || ranges(c, [][2]int{{'0', '9'}, {'-', '-'}, {'.', '.'}, {0xB7, 0xB7}})
}

// encoded returns the UTF-8 form of a number below 200000 (hexadecimal), written by its bits, whether or not it is a character.
func encoded(c int) string {
	b := func(lead, shift int) byte { return byte(lead | c>>shift) }
	next := func(shift int) byte { return byte(0x80 | c>>shift&0x3F) }
	switch {
	case c < 0x80:
		return string([]byte{byte(c)})
	case c < 0x800:
		return string([]byte{b(0xC0, 6), next(0)})
	case c < 0x10000:
		return string([]byte{b(0xE0, 12), next(6), next(0)})
	}
	return string([]byte{b(0xF0, 18), next(12), next(6), next(0)})
}

// words returns all strings of at most n of the pieces.
func words(n int, pieces ...string) []string {
	all := []string{""}
	last := all
	for range n {
		var longer []string
		for _, s := range last {
			for _, p := range pieces {
				longer = append(longer, s+p)
			}
		}
		all = append(all, longer...)
		last = longer
	}
	return all
}

// notTexts are strings that are no texts, each for another reason.
func notTexts() []string {
	return []string{
		"\x00", "\x08", "\x0b", "\x0c", "\x0e", "\x1f", "a\x00b", // no characters
		"\ufffe", "\uffff", "a\uffffb",
		"\x80", "\xbf", "\xff", "\xfe", "a\xffb", // no beginning of a character
		"\xc3", "a\xc3", "\xe2\x82", "\xf0\x9f\x98", "\xc3a", "\xe2\x82a", // cut off
		"\xc0\x80", "\xc1\x81", "\xe0\x9f\xbf", "\xf0\x8f\xbf\xbf", // not the shortest form
		"\xed\xa0\x80", "\xed\xbf\xbf", "\xed\xa0\x80\xed\xb0\x80", // surrogates
		"\xf4\x90\x80\x80", "\xf5\x80\x80\x80", "\xf8\x88\x80\x80\x80", // above 10FFFF
	}
}

// texts are texts of many kinds, the empty one among them.
func texts() []string {
	l := words(4, "a", ":", " ", "\n", "\u00e9", "\u20ac", "\U0001f600")
	return append(l, "\ufffd", "\ud7ff\ue000\U00010000\U0010ffff", "\t\r\x7f\u0080", strings.Repeat("\u20ac", 1000))
}

// P1.1: every code point, alone and between others.
func TestIsTextPoints(t *testing.T) {
	for c := range 0x200000 {
		s := encoded(c)
		if chars.IsText(s) != isChar(c) {
			t.Fatalf("IsText of code point %x", c)
		}
		if c%257 == 0 && chars.IsText("a"+s+"b") != isChar(c) {
			t.Fatalf("IsText of code point %x between letters", c)
		}
	}
}

// P1.1: every string of two bytes, and those of three and four bytes at the bounds of what a byte can mean.
func TestIsTextBytes(t *testing.T) {
	forms := map[string]bool{}
	for c := range 0x110000 {
		if isChar(c) {
			forms[encoded(c)] = true
		}
	}
	var want func(s string) bool
	want = func(s string) bool {
		if s == "" {
			return true
		}
		for n := 1; n <= min(4, len(s)); n++ {
			if forms[s[:n]] && want(s[n:]) {
				return true
			}
		}
		return false
	}
	var each, bounds []string
	for b := range 256 {
		each = append(each, string([]byte{byte(b)}))
	}
	for _, b := range []byte{0, 9, 0x20, 0x41, 0x7f, 0x80, 0x8f, 0x90, 0x9f, 0xa0, 0xbd, 0xbe, 0xbf, 0xc0, 0xc1, 0xc2, 0xdf, 0xe0, 0xed, 0xee, 0xef, 0xf0, 0xf4, 0xf5, 0xff} {
		bounds = append(bounds, string([]byte{b}))
	}
	for _, s := range append(words(2, each...), words(4, bounds...)...) {
		if chars.IsText(s) != want(s) {
			t.Fatalf("IsText of % x", s)
		}
	}
}

// P1.1: strings that are no texts, in all functions that distinguish them.
func TestNotTexts(t *testing.T) {
	for _, s := range notTexts() {
		if chars.IsText(s) || chars.IsName(s) || chars.IsName("a"+s) || chars.IsName("a:"+s+"a") {
			t.Errorf("% x is a text or in a name", s)
		}
		if l, e := chars.Points(s); l != nil || e != api.ErrText {
			t.Errorf("Points of % x: %v, %d", s, l, e)
		}
		if chars.Len(s) != 0 || chars.Len("a"+s) != 0 {
			t.Errorf("Len of % x", s)
		}
		if chars.Cut(s, 0, 9) != "" || chars.Cut("ab"+s, 0, 1) != "" {
			t.Errorf("Cut of % x", s)
		}
	}
	for _, s := range texts() {
		if !chars.IsText(s) {
			t.Errorf("%q is no text", s)
		}
	}
}

// P1.1: names that are and are not.
func TestIsName(t *testing.T) {
	x := func(n int) string { return strings.Repeat("x", n) }
	e := func(n int) string { return strings.Repeat("\u4e00", n) }
	for _, s := range []string{
		"a", "Z", "_", "_-.9", "x:y", "a9", "a-", "a.", "xsl:for-each", "_:_", "\u00c0", "\u00d6\u00d8\u00f6\u00f8", "a\u00b7", "\ufffd", "\U0010ffff", "\u2003",
		x(100), e(100), x(98) + ":y", "y:" + x(98), e(49) + ":" + e(50),
	} {
		if !chars.IsName(s) {
			t.Errorf("%q is no name", s)
		}
	}
	for _, s := range []string{
		"", "9a", ":a", "a:", ":", "::", "a:9", "a:-", "a::b", "a:b:c", "a:b:", "-a", ".a", "\u00b7a", "a:\u00b7", "\u00d7", "\u00f7", "a\u00d7", "a\u00f7", "\u00bf", "a\u00bf",
		" a", "a ", "a b", "a\n", "a/b", "a@", "a[", "a`", "a{", "a^", "\u00a0", "a\ufffe", "a\x00",
		x(101), e(101), x(99) + ":y", "y:" + x(99), e(50) + ":" + e(50), x(100) + ":", x(200) + ":" + x(200),
	} {
		if chars.IsName(s) {
			t.Errorf("%q is a name", s)
		}
	}
}

// P1.1: every code point, at the beginning of a part and after it.
func TestIsNamePoints(t *testing.T) {
	for c := range 0x110000 {
		s := encoded(c)
		if chars.IsName(s) != isLetter(c) || chars.IsName("a:"+s) != isLetter(c) {
			t.Fatalf("IsName with code point %x at the beginning", c)
		}
		if chars.IsName("a"+s) != isLater(c) || chars.IsName("a:b"+s+"c") != isLater(c) {
			t.Fatalf("IsName with code point %x", c)
		}
	}
}

// P1.1 and P1.2: each byte, and the words of white space and other bytes.
func TestIsSpace(t *testing.T) {
	for b := range 256 {
		s := string([]byte{byte(b)})
		white := b == 9 || b == 0xA || b == 0xD || b == 0x20
		if chars.IsSpace(s) != white || chars.IsSpace(" \t"+s+"\r\n") != white || (chars.Norm(s) == "") != white {
			t.Errorf("IsSpace or Norm of byte %x", b)
		}
	}
	for _, s := range []string{"", " ", "\t\n\r ", strings.Repeat(" ", 1000)} {
		if !chars.IsSpace(s) {
			t.Errorf("IsSpace of %q is false", s)
		}
	}
	for _, s := range []string{"a", " a", "a ", "\u00a0", "\u0085", "\u2003", "\u2028", "\u3000", "\v", "\f", "\xff", " \xff ", "\x00"} {
		if chars.IsSpace(s) {
			t.Errorf("IsSpace of %q is true", s)
		}
	}
}

// P1.2: the ends, the runs, what is no white space, and strings that are no texts.
func TestNorm(t *testing.T) {
	for _, x := range [][2]string{
		{"", ""}, {" ", ""}, {"\r\n\t ", ""}, {"a", "a"}, {" a", "a"}, {"a ", "a"}, {"  a\n\tb ", "a b"}, {"a b", "a b"}, {"a\tb", "a b"}, {"a\r\nb\n\nc", "a b c"},
		{"\u00a0a\u00a0", "\u00a0a\u00a0"}, {"a\u2003\u2003b", "a\u2003\u2003b"}, {"\u0085", "\u0085"}, {"\v \f", "\v \f"}, {" \u00e9 \u20ac \U0001f600 ", "\u00e9 \u20ac \U0001f600"},
		{" \xff  \xfe\t", "\xff \xfe"}, {"\xc3 \xa9", "\xc3 \xa9"}, {"\xe2\x82\n\n\xac", "\xe2\x82 \xac"}, {"\x00  \x00", "\x00 \x00"}, {"\xed\xa0\x80  ", "\xed\xa0\x80"},
	} {
		if got := chars.Norm(x[0]); got != x[1] {
			t.Errorf("Norm of %q: %q, not %q", x[0], got, x[1])
		}
	}
}

// P1.3: code points of texts, and texts of code points.
func TestPointsFrom(t *testing.T) {
	for _, x := range []struct {
		s string
		l []int
	}{{"", nil}, {"a", []int{'a'}}, {"a\u00e9", []int{97, 233}}, {"\ufffd", []int{0xFFFD}}, {"\t\n\r ", []int{9, 10, 13, 32}}, {"\ud7ff\ue000\U00010000\U0010ffff", []int{0xD7FF, 0xE000, 0x10000, 0x10FFFF}}} {
		if l, e := chars.Points(x.s); e != api.OK || !slices.Equal(l, x.l) {
			t.Errorf("Points of %q: %v, %d", x.s, l, e)
		}
		if s, e := chars.From(x.l); e != api.OK || s != x.s {
			t.Errorf("From of %v: %q, %d", x.l, s, e)
		}
	}
}

// P1.3: each number around the code points, and numbers whose low bits are those of a character.
func TestFromNumbers(t *testing.T) {
	for c := -0x1000; c < 0x111000; c++ {
		want, code := "", api.ErrText
		if isChar(c) {
			want, code = encoded(c), api.OK
		}
		if s, e := chars.From([]int{c}); s != want || e != code {
			t.Fatalf("From of %x: %q, %d", c, s, e)
		}
	}
	for _, c := range []int{1<<32 + 97, -1<<32 + 97, 1<<31 + 97, 1<<40 + 0x20, 1<<63 - 1, -1 << 63, -1, 0, 0xD800, 0xDFFF, 0xFFFE, 0xFFFF, 0x110000} {
		for _, l := range [][]int{{c}, {97, c}, {c, 97}, {97, c, 98}} {
			if s, e := chars.From(l); s != "" || e != api.ErrText {
				t.Errorf("From of %x: %q, %d", l, s, e)
			}
		}
	}
}

// P1.3: what Points returns is new, and From leaves its argument as it is.
func TestNewMemory(t *testing.T) {
	l, _ := chars.Points("abc")
	l[0] = 'x'
	if m, _ := chars.Points("abc"); m[0] != 'a' {
		t.Error("two calls of Points share memory")
	}
	m := []int{'a', 0xE9}
	chars.From(m)
	if !slices.Equal(m, []int{'a', 0xE9}) {
		t.Error("From changes its argument")
	}
}

// P1.4: all places from below the first to above the last, against the list of characters.
func TestLenCut(t *testing.T) {
	const least, greatest = -1 << 63, 1<<63 - 1
	for _, s := range []string{"", "a", "a\u00e9b", "\ufffd\ufffd", "\U0001f600\u20ac \n\u00e9z"} {
		var l []string
		for _, r := range s {
			l = append(l, string(r))
		}
		if chars.Len(s) != len(l) {
			t.Errorf("Len of %q: %d", s, chars.Len(s))
		}
		places := []int{least, least + 1, -5, -1, 0, 1, 2, 3, 4, 5, 6, 7, 99, greatest - 1, greatest}
		for _, from := range places {
			for _, to := range places {
				want := ""
				for i, c := range l {
					if from <= i && i < to {
						want += c
					}
				}
				if got := chars.Cut(s, from, to); got != want {
					t.Errorf("Cut of %q from %d to %d: %q", s, from, to, got)
				}
			}
		}
	}
}

// P1.5: there and back.
func TestThereAndBack(t *testing.T) {
	for _, s := range texts() {
		l, e := chars.Points(s)
		if back, f := chars.From(l); e != api.OK || f != api.OK || back != s {
			t.Errorf("%q: %v, %d, %q, %d", s, l, e, back, f)
		}
	}
	var l []int
	for c := range 0x110000 {
		if isChar(c) {
			l = append(l, c)
		}
	}
	s, e := chars.From(l)
	if back, f := chars.Points(s); e != api.OK || f != api.OK || !slices.Equal(back, l) {
		t.Error("the list of all characters", e, f)
	}
}

// P1.6: pieces of a text, and texts one after the other.
func TestPieces(t *testing.T) {
	for _, s := range texts() {
		n := chars.Len(s)
		for at := -2; at <= min(n, 10)+2; at++ {
			first, second := chars.Cut(s, 0, at), chars.Cut(s, at, n)
			if first+second != s || !chars.IsText(first) || !chars.IsText(second) {
				t.Errorf("%q at %d: %q, %q", s, at, first, second)
			}
		}
	}
	l := words(3, "a", "\u00e9", "\u20ac", "\U0001f600", "\ufffd", " ")
	for _, s := range l {
		for _, u := range l {
			if !chars.IsText(s+u) || chars.Len(s+u) != chars.Len(s)+chars.Len(u) {
				t.Errorf("%q and %q", s, u)
			}
		}
	}
}

// P1.7: white space that was normalised.
func TestWhiteSpace(t *testing.T) {
	for _, s := range append(words(6, " ", "\n", "a", "\xff"), words(5, "\t", "\r", "\u00a0", "\xc3", "\xa9")...) {
		n := chars.Norm(s)
		if chars.Norm(n) != n {
			t.Fatalf("Norm of %q is not normal", s)
		}
		if strings.ContainsAny(n, "\t\n\r") || strings.Contains(n, "  ") || strings.HasPrefix(n, " ") || strings.HasSuffix(n, " ") {
			t.Fatalf("Norm of %q: %q", s, n)
		}
		if strings.NewReplacer(" ", "", "\t", "", "\n", "", "\r", "").Replace(s) != strings.ReplaceAll(n, " ", "") {
			t.Fatalf("Norm of %q changes other bytes: %q", s, n)
		}
		if (n == "") != chars.IsSpace(s) {
			t.Fatalf("Norm and IsSpace of %q", s)
		}
	}
}

// P1.8: names of names.
func TestNamesOfNames(t *testing.T) {
	l := append(words(3, "a", "9", "-", ":", "\u00e9", "\u00b7", " ", "\n"), strings.Repeat("x", 49), strings.Repeat("y", 50), strings.Repeat("z", 51), strings.Repeat("x", 99))
	var plain []string
	for _, s := range l {
		if !chars.IsName(s) {
			continue
		}
		if !chars.IsText(s) || strings.ContainsAny(s, " \t\r\n") || strings.Count(s, ":") > 1 {
			t.Errorf("%q is a name", s)
		}
		if !strings.Contains(s, ":") {
			plain = append(plain, s)
		}
		for _, more := range words(2, "a", "9", "-", ".", "_", "\u00b7", "\u4e00") {
			if u := s + more; chars.IsName(u) != (chars.Len(u) <= 100) {
				t.Errorf("%q after %q", more, s)
			}
		}
	}
	for _, s := range plain {
		for _, u := range plain {
			if both := s + ":" + u; chars.IsName(both) != (chars.Len(both) <= 100) {
				t.Errorf("%q and %q", s, u)
			}
			if chars.IsName(s + ":" + u + ":a") {
				t.Errorf("%q and %q with two colons", s, u)
			}
		}
	}
}

// P1: long arguments, and the same call twice.
func TestLong(t *testing.T) {
	s := strings.Repeat(" \u20acx\t\n", api.MaxText/4)
	n := len([]rune(s))
	if !chars.IsText(s) || chars.IsName(s) || chars.IsSpace(s) || chars.Len(s) != n {
		t.Error("a long text")
	}
	if got := chars.Norm(s); len(got) != api.MaxText/4*5-1 || got != chars.Norm(s) {
		t.Error("Norm of a long text", len(got))
	}
	if chars.Cut(s, n-4, n) != "\u20acx\t\n" || chars.IsText(s+"\xff") || chars.Len(s+"\xff") != 0 || chars.Cut(s+"\xff", 0, 1) != "" {
		t.Error("the end of a long text")
	}
}
