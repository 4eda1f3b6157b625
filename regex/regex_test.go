package regex_test

import (
	"reflect"
	"slices"
	"strings"
	"sync"
	"testing"
	"unicode/utf8"

	"chisel/api"
	"chisel/chars"
	"chisel/regex"
)

// compile returns an expression that must be one.
func compile(t *testing.T, pattern, flags string) *regex.Regex {
	t.Helper()
	r, e := regex.Compile(pattern, flags)
	if e != api.OK || r == nil {
		t.Fatalf("Compile of %q with %q: %d", pattern, flags, e)
	}
	return r
}

// all returns the bounds of all matches, found one after the other; they must not be empty.
func all(t *testing.T, r *regex.Regex, s string) [][]int {
	t.Helper()
	var l [][]int
	for from := 0; ; {
		loc, ok := r.Find(s, from)
		if !ok {
			return l
		}
		if loc[0] < from || loc[1] <= loc[0] {
			t.Fatalf("Find in %q from %d: %v", s, from, loc)
		}
		l = append(l, loc)
		from = loc[1]
	}
}

// longest returns the greatest number of characters that fit, as the chapter defines it.
func longest(weight int) int {
	n := 0
	for (n+2)*(n+2)*(weight+1) <= 8388608 {
		n++
	}
	return n
}

// The examples of the chapter.
func TestExamples(t *testing.T) {
	for _, x := range []struct {
		pattern, flags, text string
		want                 [][]int
	}{
		{"a|ab", "", "xab", [][]int{{1, 2}}},
		{"(a*)(b)?", "", "aac", [][]int{{0, 2, 0, 2, -1, -1}}},
		{"(?:(a)|b)*", "", "ab", [][]int{{0, 2, 0, 1}}},
		{"a{2,3}?", "", "aaaa", [][]int{{0, 2}, {2, 4}}},
		{"^b", "m", "a\nb", [][]int{{2, 3}}},
		{"[^a-c]", "i", "aBd", [][]int{{2, 3}}},
	} {
		r := compile(t, x.pattern, x.flags)
		from := 0
		for _, want := range x.want {
			if loc, ok := r.Find(x.text, from); !ok || !slices.Equal(loc, want) {
				t.Errorf("%q in %q from %d: %v", x.pattern, x.text, from, loc)
			}
			from = want[1]
		}
	}
	if s, e := compile(t, `(\d)(x?)`, "").Replace("1x2", `<$2$1\$>`); s != "<x1$><2$>" || e != api.OK {
		t.Errorf("Replace: %q, %d", s, e)
	}
	if l, e := compile(t, `,\s*`, "").Tokens("a, b,,c"); !slices.Equal(l, []string{"a", "b", "", "c"}) || e != api.OK {
		t.Errorf("Tokens: %q, %d", l, e)
	}
	if l, e := compile(t, "a*", "").Tokens("b"); len(l) != 0 || e != api.ErrEmpty {
		t.Errorf("Tokens: %q, %d", l, e)
	}
	for pattern, want := range map[string]api.Errno{"a{101}": api.ErrLong, "a**": api.ErrForm, "[b-a]": api.ErrForm, "(": api.ErrForm, "]": api.ErrForm, `\q`: api.ErrForm} {
		if r, e := regex.Compile(pattern, ""); r != nil || e != want {
			t.Errorf("Compile of %q: %d", pattern, e)
		}
	}
}

// P2.1: each error, and which of several comes first.
func TestCompileErrors(t *testing.T) {
	long := strings.Repeat("a", 1001)
	for _, x := range []struct {
		pattern, flags string
		want           api.Errno
	}{
		{"", "", api.OK}, {"a", "imsx", api.OK}, {"a", "xxsmmi", api.OK}, {"a", strings.Repeat("i", 5000), api.OK},
		{"\xff", "", api.ErrText}, {"a\x00", "", api.ErrText}, {"\xed\xa0\x80", "q", api.ErrText}, {long + "\xff", "q", api.ErrText}, {"(\ufffe", "", api.ErrText},
		{"a", "g", api.ErrArg}, {"a", "I", api.ErrArg}, {"a", " ", api.ErrArg}, {"a", "i ", api.ErrArg}, {"a", "igi", api.ErrArg}, {"a", "\xff", api.ErrArg}, {"a", "i\u017f", api.ErrArg}, {"(", "q", api.ErrArg}, {long, "q", api.ErrArg},
		{long, "", api.ErrLong}, {long[1:] + "(", "", api.ErrLong}, {strings.Repeat(" ", 1001), "x", api.ErrLong}, {strings.Repeat("\u20ac", 1001), "", api.ErrLong},
		{long[1:], "", api.OK}, {strings.Repeat(" ", 1000), "x", api.OK}, {strings.Repeat("\u20ac", 1000), "", api.OK}, {strings.Repeat("(", 1000), "", api.ErrForm}, {strings.Repeat("(", 500) + strings.Repeat(")", 500), "", api.OK},
		{"a{101}(", "", api.ErrForm}, {"(?:a{100}){100}(", "", api.ErrForm}, {"a{101}{1}", "", api.ErrForm}, {"a{101,100}", "", api.ErrForm},
	} {
		r, e := regex.Compile(x.pattern, x.flags)
		if e != x.want || (r == nil) != (e != api.OK) {
			t.Errorf("Compile of %.20q with %.20q: %d, not %d", x.pattern, x.flags, e, x.want)
		}
	}
}

// P2.1: the numbers of quantifiers, also with hundreds of digits.
func TestQuantifierNumbers(t *testing.T) {
	zeros, nines := strings.Repeat("0", 400), strings.Repeat("9", 400)
	for q, want := range map[string]api.Errno{
		"{0}": api.OK, "{100}": api.OK, "{101}": api.ErrLong, "{0,100}": api.OK, "{0,101}": api.ErrLong, "{100,}": api.OK, "{101,}": api.ErrLong, "{100,100}": api.OK, "{101,101}": api.ErrLong,
		"{1,0}": api.ErrForm, "{100,99}": api.ErrForm, "{102,101}": api.ErrForm, "{10,9}": api.ErrForm, "{9,10}": api.OK, "{0,0}": api.OK, "{00}": api.OK, "{007,07}": api.OK, "{000100}": api.OK,
		"{" + zeros + "}": api.OK, "{" + zeros + "1}": api.OK, "{" + nines + "}": api.ErrLong, "{" + nines + ",}": api.ErrLong, "{1," + nines + "}": api.ErrLong, "{" + nines + ",1}": api.ErrForm,
		"{" + nines + "1," + nines + "2}": api.ErrLong, "{" + nines + "2," + nines + "1}": api.ErrForm, "{" + zeros + "3," + zeros + "2}": api.ErrForm, "{" + zeros + "2," + zeros + "3}": api.OK, "{3," + zeros + "2}": api.ErrForm,
		"{18446744073709551617}": api.ErrLong, "{4294967297}": api.ErrLong, "{2,18446744073709551617}": api.ErrLong, "{2,1.}": api.ErrForm,
		"{}": api.ErrForm, "{,}": api.ErrForm, "{,1}": api.ErrForm, "{1": api.ErrForm, "{1,": api.ErrForm, "{1,2": api.ErrForm, "{1;2}": api.ErrForm, "{1,2,3}": api.ErrForm, "{-1}": api.ErrForm, "{+1}": api.ErrForm, "{ 1}": api.ErrForm, "{1_0}": api.ErrForm, "{\u0661}": api.ErrForm,
	} {
		for _, pattern := range []string{"a" + q, "(b" + q + ")", "c" + q + "?d"} {
			if r, e := regex.Compile(pattern, ""); e != want || (r == nil) != (e != api.OK) {
				t.Errorf("Compile of %.60q: %d, not %d", pattern, e, want)
			}
		}
	}
	r := compile(t, "a{"+zeros+"2,003}", "")
	if l := all(t, r, "aaaaaaaaaa"); !reflect.DeepEqual(l, [][]int{{0, 3}, {3, 6}, {6, 9}}) {
		t.Error(l)
	}
}

// P2.1: the weight of each kind of part, as the length of the texts that fit tells it, and its limit.
func TestWeight(t *testing.T) {
	for pattern, weight := range map[string]int{
		"": 0, "a": 1, ".": 1, "^": 1, "$": 1, `\d`: 1, `\.`: 1, "[abc]": 1, "[^a-z0-9]": 1, "abc": 3, "()": 1, "(a)": 2, "(?:a)": 2, "((a)b)": 4, "|": 1, "a|b": 3, "a||bc": 5, "(|)": 2,
		"a*": 1, "a?": 1, "a+": 2, "a*?": 1, "a??": 1, "a+?": 2, "a{0}": 1, "a{1}": 1, "a{7}": 7, "a{0,}": 1, "a{3,}": 4, "a{3,}?": 4, "a{2,5}": 5, "a{0,5}": 5, "a{99}": 99, "a{100}": 100, "a{100,}": 101,
		"(a){3}": 6, "(?:ab|c){2,3}": 15, "((a+)+)+": 14, "(?:){100}": 100, "(a{0}){0}": 2, "(?:a{100}){99}": 9999, "(?:a{100}){99}b": 10000, "(?:(?:a{99}){9}){11}": 9911, "(?:" + strings.Repeat("a", 98) + "|){100}": 10000,
	} {
		r := compile(t, pattern, "")
		n := longest(weight)
		if !r.Fits(strings.Repeat("x", n)) || !r.Fits(strings.Repeat("\U0001f600", n)) || r.Fits(strings.Repeat("x", n+1)) {
			t.Errorf("the weight of %q is not %d", pattern, weight)
		}
	}
	for _, pattern := range []string{
		"(?:a{100}){99}bc", "(?:a{100}){100}", "(a{100}){100}", "(?:(?:){100}){100}", "(?:a{0,100}){99,}", "(?:a{100}){100}?", "(?:(?:a{100}){100}){0}",
		strings.Repeat("(", 140) + "a" + strings.Repeat("){100}", 140), strings.Repeat("(?:", 100) + strings.Repeat("){100}", 100), strings.Repeat("(", 300) + strings.Repeat(")+", 300), strings.Repeat("a{100}", 101),
	} {
		if r, e := regex.Compile(pattern, ""); r != nil || e != api.ErrLong {
			t.Errorf("Compile of %.40q: %d", pattern, e)
		}
	}
	compile(t, strings.Repeat("a{100}", 100), "")
}

// P2.2: texts that fit.
func TestFits(t *testing.T) {
	one, hundred := compile(t, "a", ""), compile(t, "a{100}", "")
	for _, x := range []struct {
		r    *regex.Regex
		s    string
		want bool
	}{
		{one, "", true}, {one, strings.Repeat("a", 2047), true}, {one, strings.Repeat("a", 2048), false}, {hundred, strings.Repeat("a", 287), true}, {hundred, strings.Repeat("a", 288), false},
		{one, strings.Repeat("\u20ac", 2047), true}, {one, strings.Repeat("a", api.MaxText), false}, {one, strings.Repeat("a", 1<<25), false}, {one, "\xff", false}, {one, "a\x00", false},
		{nil, "", false}, {nil, "a", false}, {new(regex.Regex), "", false}, {&regex.Regex{}, "a", false},
	} {
		if x.r.Fits(x.s) != x.want {
			t.Errorf("Fits of %.10q with %d bytes: %v", x.s, len(x.s), !x.want)
		}
	}
}

// P2.2: no bounds and false.
func TestFindNothing(t *testing.T) {
	r := compile(t, "a|$", "")
	long := strings.Repeat("a", longest(3)+1)
	for _, x := range []struct {
		r    *regex.Regex
		s    string
		from int
	}{
		{nil, "a", 0}, {new(regex.Regex), "a", 0}, {new(regex.Regex), "", 0}, {r, "a\xff", 0}, {r, "\xff", 0}, {r, "a\x00", 0}, {r, long, 0},
		{r, "a", -1}, {r, "a", 2}, {r, "", 1}, {r, "\u20ac", 2}, {r, "a", -1 << 63}, {r, "a", 1<<63 - 1},
		{compile(t, "a", ""), "a", 1}, {compile(t, "a", ""), "b", 0}, {compile(t, "^a", ""), "aa", 1}, {compile(t, "a{0}b", ""), "a", 0},
	} {
		if loc, ok := x.r.Find(x.s, x.from); ok || loc != nil {
			t.Errorf("Find in %.10q from %d: %v, %v", x.s, x.from, loc, ok)
		}
	}
	for _, x := range []*regex.Regex{nil, new(regex.Regex)} {
		if x.Match("a") || x.Match("") {
			t.Error("Match without an expression")
		}
	}
	if r.Match("a\xff") || r.Match(long) || !r.Match("") || !r.Match(long[1:]) || compile(t, "a", "").Match("b") || !compile(t, "a", "").Match("ba") {
		t.Error("Match")
	}
}

// P2.2: bounds count characters, from any place on, also the last one.
func TestFindPlaces(t *testing.T) {
	for _, x := range []struct {
		pattern, flags, s string
		from              int
		want              []int
	}{
		{"a", "", "\u20ac\U0001f600a\u00e9a", 0, []int{2, 3}}, {"a", "", "\u20ac\U0001f600a\u00e9a", 2, []int{2, 3}}, {"a", "", "\u20ac\U0001f600a\u00e9a", 3, []int{4, 5}},
		{"", "", "abc", 0, []int{0, 0}}, {"", "", "abc", 2, []int{2, 2}}, {"", "", "abc", 3, []int{3, 3}}, {"", "", "", 0, []int{0, 0}}, {"()|a", "", "a", 0, []int{0, 0, 0, 0}}, {"$", "", "abc", 0, []int{3, 3}}, {"^", "", "", 0, []int{0, 0}},
		{"(a)|(b)|(c)", "", "b", 0, []int{0, 1, -1, -1, 0, 1, -1, -1}}, {"((a)(b))c", "", "xabc", 0, []int{1, 4, 1, 3, 1, 2, 2, 3}}, {"(?:a(b))(c)", "", "abc", 0, []int{0, 3, 1, 2, 2, 3}},
		{"(a){0}b", "", "ab", 0, []int{1, 2, -1, -1}}, {"(a){3}", "", "aaa", 0, []int{0, 3, 2, 3}}, {"(a|b)*", "", "ab", 0, []int{0, 2, 1, 2}}, {"(a*)*", "", "b", 0, []int{0, 0, -1, -1}}, {"(a*)+", "", "b", 0, []int{0, 0, 0, 0}}, {"(a*)+", "", "aa", 0, []int{0, 2, 0, 2}},
		{"(a*){2}", "", "aa", 0, []int{0, 2, 2, 2}}, {"(a*){2,3}", "", "aa", 0, []int{0, 2, 2, 2}}, {"(a|())*b", "", "aab", 0, []int{0, 3, 1, 2, -1, -1}}, {"(?:a|(b)|c)*", "", "bac", 0, []int{0, 3, 0, 1}}, {"(?:(a)|(b))+?c", "", "abc", 0, []int{0, 3, 0, 1, 1, 2}},
		{"(a)|(a)b", "", "ab", 0, []int{0, 1, 0, 1, -1, -1}}, {"(?:(a)|(a)b)$", "", "ab", 0, []int{0, 2, -1, -1, 0, 1}},
	} {
		r := compile(t, x.pattern, x.flags)
		for range 2 {
			loc, ok := r.Find(x.s, x.from)
			if !ok || !slices.Equal(loc, x.want) {
				t.Errorf("%q in %q from %d: %v", x.pattern, x.s, x.from, loc)
			}
			clear(loc) // what is returned is new: the next call does not see this
		}
	}
}

// P2.2: greedy and lazy quantifiers, and the number of times.
func TestQuantifiers(t *testing.T) {
	for _, x := range []struct {
		pattern string
		want    []int // the lengths of the matches in aaaaaaa
	}{
		{"a", []int{1, 1, 1, 1, 1, 1, 1}}, {"aa*", []int{7}}, {"aa*?", []int{1, 1, 1, 1, 1, 1, 1}}, {"a+", []int{7}}, {"a+?", []int{1, 1, 1, 1, 1, 1, 1}}, {"a+?$", []int{7}}, {"aa?", []int{2, 2, 2, 1}}, {"aa??", []int{1, 1, 1, 1, 1, 1, 1}},
		{"a{3}", []int{3, 3}}, {"a{3}?", []int{3, 3}}, {"a{2,}", []int{7}}, {"a{2,}?", []int{2, 2, 2}}, {"a{2,4}", []int{4, 3}}, {"a{2,4}?", []int{2, 2, 2}}, {"a{5,6}a{0}", []int{6}}, {"a{8}", nil}, {"a{8,}", nil}, {"(?:a{2}){3}", []int{6}}, {"(?:a{2,3}){2}", []int{6}}, {"(?:a{2,3}?){2}", []int{4}},
		{"(?:aa|a)", []int{2, 2, 2, 1}}, {"(?:a|aa)", []int{1, 1, 1, 1, 1, 1, 1}}, {"(?:a|aa)$", []int{2}}, {"(?:a|aa)+$", []int{7}}, {"(?:aaa)*?a$", []int{7}}, {"(?:aaa){0,1}a$", []int{4}},
	} {
		var got []int
		for _, loc := range all(t, compile(t, x.pattern, ""), "aaaaaaa") {
			got = append(got, loc[1]-loc[0])
		}
		if !slices.Equal(got, x.want) {
			t.Errorf("%q: %v", x.pattern, got)
		}
	}
}

// P2.2: what characters, escapes and classes stand for, for each character.
func TestCharacters(t *testing.T) {
	letter := func(c rune) bool { return chars.IsName(string(c)) }
	digit := func(c rune) bool { return c >= '0' && c <= '9' }
	space := func(c rune) bool { return c == 9 || c == 10 || c == 13 || c == 32 }
	in := func(l string) func(c rune) bool { return func(c rune) bool { return strings.ContainsRune(l, c) } }
	not := func(f func(c rune) bool) func(c rune) bool { return func(c rune) bool { return !f(c) } }
	or := func(f, g func(c rune) bool) func(c rune) bool { return func(c rune) bool { return f(c) || g(c) } }
	between := func(a, b rune) func(c rune) bool { return func(c rune) bool { return a <= c && c <= b } }
	any := not(in(""))
	for _, x := range []struct {
		pattern, flags string
		has            func(c rune) bool
	}{
		{".", "", not(in("\n\r"))}, {".", "s", any}, {".", "m", not(in("\n\r"))}, {".", "i", not(in("\n\r"))}, {".", "is", any},
		{`\d`, "", digit}, {`\D`, "", not(digit)}, {`\s`, "", space}, {`\S`, "", not(space)}, {`\w`, "", or(letter, digit)}, {`\W`, "", not(or(letter, digit))}, {`\w`, "i", or(letter, digit)}, {`\W`, "i", not(or(letter, digit))}, {`\D`, "i", not(digit)},
		{`\n`, "", in("\n")}, {`\r`, "", in("\r")}, {`\t`, "", in("\t")}, {`[\n\r\t]`, "", in("\n\r\t")}, {`\-`, "", in("-")}, {`\^`, "", in("^")}, {`\$`, "", in("$")}, {`\\`, "", in(`\`)}, {`\.`, "", in(".")}, {`[\]\[]`, "", in("[]")}, {`[\\\-\^]`, "", in(`\-^`)},
		{"a", "", in("a")}, {"a", "i", in("aA")}, {"Z", "i", in("zZ")}, {"k", "i", in("kK")}, {"s", "i", in("sS")}, {"\u00e9", "i", in("\u00e9")}, {"\u0131", "i", in("\u0131")}, {"-", "", in("-")}, {"-", "i", in("-")}, {"\U0001f600", "", in("\U0001f600")}, {"@", "i", in("@")}, {"`", "i", in("`")}, {"{", "", nil}, {"[{]", "i", in("{")}, {"\n", "", in("\n")}, {"\ufffd", "", in("\ufffd")},
		{"[abc]", "", in("abc")}, {"[^abc]", "", not(in("abc"))}, {"[a-c]", "", between('a', 'c')}, {"[^a-c]", "", not(between('a', 'c'))}, {"[a-a]", "", in("a")}, {"[a-cx-z9]", "", in("abcxyz9")}, {"[a^]", "", in("a^")}, {"[^^]", "", not(in("^"))}, {"[+-9]", "", between('+', '9')}, {"[^+-9]", "", not(between('+', '9'))},
		{"[^-a]", "", nil}, {"[x^-z]", "", or(in("x"), between('^', 'z'))}, {`[\--\.]`, "", in("-.")}, {`[\t-\r]`, "", between('\t', '\r')}, {`[a\-z]`, "", in("a-z")}, {`[\^-a]`, "", between('^', 'a')}, {"[.$*+?(){}|,:]", "", in(".$*+?(){}|,:")}, {"[ \n]", "", in(" \n")}, {"[\u00e9-\u20ac]", "", between(0xe9, 0x20ac)}, {"[\u20ac-\U0010ffff]", "", between(0x20ac, 0x10ffff)},
		{`[\d\s]`, "", or(digit, space)}, {`[^\d\s]`, "", not(or(digit, space))}, {`[\D]`, "", not(digit)}, {`[^\D]`, "", digit}, {`[\Da]`, "", not(digit)}, {`[\D0]`, "", or(not(digit), in("0"))}, {`[\W\d]`, "", not(letter)}, {`[^\W\d]`, "", letter}, {`[\s\S]`, "", any}, {`[^\s\S]`, "", in("")}, {`[\w.\-]`, "", or(or(letter, digit), in(".-"))},
		{"[a-c]", "i", in("abcABC")}, {"[^a-c]", "i", not(in("abcABC"))}, {"[A-C]", "i", in("abcABC")}, {"[Z-a]", "i", or(between('Z', 'a'), in("zA"))}, {"[^Z-a]", "i", not(or(between('Z', 'a'), in("zA")))}, {"[@-`]", "i", or(between('@', '`'), between('a', 'z'))}, {"[\u00e0-\u00ff]", "i", between(0xe0, 0xff)}, {`[\Wa]`, "i", or(not(or(letter, digit)), in("aA"))}, {"[!-~]", "i", between('!', '~')},
	} {
		r, e := regex.Compile(x.pattern, x.flags)
		if x.has == nil {
			if e != api.ErrForm {
				t.Errorf("Compile of %q: %d", x.pattern, e)
			}
			continue
		}
		for c := rune(0); c < 0x110000; c++ {
			// The string of half a pair is that of another character.
			if s := string(c); utf8.ValidRune(c) && chars.IsText(s) && r.Match(s) != x.has(c) {
				t.Fatalf("%q with %q, character %x", x.pattern, x.flags, c)
			}
			if c > 0x2100 {
				c += 1021
			}
		}
	}
}

// P2.2: each letter of the alphabet with i, and no other character.
func TestOtherCase(t *testing.T) {
	for c := rune(' '); c < 0x180; c++ {
		r := compile(t, "["+strings.Repeat(`\`, btoi(strings.ContainsRune(`\[]-^`, c)))+string(c)+"]", "i")
		for d := rune(' '); d < 0x180; d++ {
			letters := c|32 == d|32 && c|32 >= 'a' && c|32 <= 'z'
			if r.Match(string(d)) != (c == d || letters) {
				t.Errorf("%q and %q", c, d)
			}
		}
	}
}

// btoi returns 1 for true.
func btoi(b bool) int {
	if b {
		return 1
	}
	return 0
}

// P2.2: the edges of texts and lines.
func TestEdges(t *testing.T) {
	for _, x := range []struct {
		pattern, flags, s string
		want              []int // the places at which the pattern matches
	}{
		{"^", "", "a\nb\n", []int{0}}, {"$", "", "a\nb\n", []int{4}}, {"^", "m", "a\nb\n", []int{0, 2, 4}}, {"$", "m", "a\nb\n", []int{1, 3, 4}}, {"^", "s", "a\nb", []int{0}}, {"$", "ix", "a\nb", []int{3}},
		{"^", "m", "a\rb\r\n", []int{0, 5}}, {"$", "m", "a\rb\r\n", []int{4, 5}}, {"^$", "", "", []int{0}}, {"^$", "", "a", nil}, {"^$", "m", "\n\na\n", []int{0, 1, 4}}, {"$^", "m", "\n\na\n", []int{0, 1, 4}}, {"$\n^", "m", "a\nb", []int{1}}, {"$\n^", "", "a\nb", nil},
		{"^a", "m", "a\na", []int{0, 2}}, {"a$", "m", "a\na", []int{0, 2}}, {"(?:^|b)a", "", "aba", []int{0, 1}}, {"^*a", "", "aa", []int{0, 1}}, {"^+a", "", "aa", []int{0}}, {"^{2}a", "", "aa", []int{0}}, {"(?:^a|b$)", "", "aabb", []int{0, 3}}, {"\u2028^", "m", "\u2028\n", nil},
	} {
		r := compile(t, x.pattern, x.flags)
		var got []int
		for from := 0; from <= chars.Len(x.s); from++ {
			if loc, ok := r.Find(x.s, from); ok && loc[0] == from {
				got = append(got, from)
			}
		}
		if !slices.Equal(got, x.want) {
			t.Errorf("%q with %q in %q: %v", x.pattern, x.flags, x.s, got)
		}
	}
}

// P2.1 and P2.2: white space that is left out, and that is not.
func TestSpaces(t *testing.T) {
	for _, x := range [][2]string{ // with x, the first one is the same as the second one without
		{" a\tb\n\rc ", "abc"}, {"", ""}, {" \n", ""}, {"a +", "a+"}, {"a + ?", "a+?"}, {"a { 1 , 2 } ?", "a{1,2}?"}, {"a{1 0}", "a{10}"}, {"( ? : a )", "(?:a)"}, {"a | b", "a|b"}, {"^ $", "^$"}, {" ( a ) ( b ) ", "(a)(b)"},
		{"[ a]", "[ a]"}, {"[a ]b c", "[a ]bc"}, {"[\ta\n] [b ]", "[\ta\n][b ]"}, {`[\] ] a`, `[\] ]a`}, {`[\[ ] a`, `[\[ ]a`}, {`\[ a`, `\[a`}, {`\[ ] a`, `\[]a`}, {`\] a`, `\]a`}, {`\\ a`, `\\a`}, {`\\\\ a b`, `\\\\ab`}, {`\\ [ a]`, `\\[ a]`}, {`[\\ ] a`, `[\\ ]a`}, {`[\\] a`, `[\\]a`}, {`\n a`, `\na`}, {"[ ^a]", "[ ^a]"}, {"[^ a] b", "[^ a]b"}, {"a\u00a0b", "a\u00a0b"}, {"a\u2003 b", "a\u2003b"}, {"[a- z]", "[a- z]"}, {"[ -a]", "[ -a]"}, {`\$ { 2 }`, `\${2}`},
		{`\ a`, `\ a`}, {`a\ `, `a\ `}, {`\ d`, `\ d`}, {"\\\n", "\\\n"}, {`a\`, `a\`}, {`\\\ a`, `\\\ a`}, {"[ ", "[ "}, {"[a] ]", "[a]]"}, {"a * *", "a**"}, {"( a", "(a"}, {"a{1 _}", "a{1_}"},
	} {
		r, e := regex.Compile(x[0], "x")
		plain, want := regex.Compile(x[1], "")
		if e != want {
			t.Errorf("Compile of %q with x: %d, not %d", x[0], e, want)
			continue
		}
		for _, s := range []string{"", "a", "abc", " a b", "\ta", "a ", " ", "aa", "aaaaaaaaaaaa", "ab", "b", "]a", "[]a", `\a`, `\\ab`, `\ a`, "\n", "\na", "^a", " a", "x b", "xb", "a\u00a0b", "a\u2003b", "$$", "$ $", `\`, "] a", "[a", "a bc", " bc"} {
			loc, ok := r.Find(s, 0)
			loc2, ok2 := plain.Find(s, 0)
			if ok != ok2 || !slices.Equal(loc, loc2) || r.Fits(s) != plain.Fits(s) {
				t.Errorf("%q with x in %q: %v, not %v", x[0], s, loc, loc2)
			}
		}
	}
	if compile(t, "a b", "").Match("ab") || !compile(t, "a b", "").Match("a b") || compile(t, "a b", "imsx").Match("a b") {
		t.Error("white space counts without x, and does not with it")
	}
}

// P2.3: what is inserted.
func TestReplace(t *testing.T) {
	for _, x := range []struct{ pattern, s, with, want string }{
		{"a", "banana", "o", "bonono"}, {"a", "banana", "", "bnn"}, {"a", "", "o", ""}, {"a", "xyz", "$0", "xyz"}, {"an", "banana", "<$0>", "b<an><an>a"}, {"\u20ac", "1\u20ac2\u20ac", "\U0001f600", "1\U0001f6002\U0001f600"}, {"a+", "baac", `\\\$`, `b\$c`}, {"a", "a", `\\0`, `\0`}, {"a", "a", `\$0`, "$0"}, {"a", "a", `\\$0`, `\a`}, {"a", "a", `$0\\`, `a\`},
		{"(a)(b)?", "abac", "[$1$2]", "[ab][a]c"}, {"(a)(b)?", "ab", "$2$1$0$0", "baabab"}, {"a", "a", "$1$2$9", ""}, {"(a)", "a", "$10", "a0"}, {"(a)(b)(c)(d)(e)(f)(g)(h)(i)(j)", "abcdefghij", "$9$8$7$6$5$4$3$2$1$0", "ihgfedcbaabcdefghij"}, {"(a)(b)(c)(d)(e)(f)(g)(h)(i)(j)", "abcdefghij", "$10", "a0"}, {"(?:(a)|(b))+", "ab", "$1,$2", "a,b"},
		{"^a", "aaa", "b", "baa"}, {"a$", "aaa", "b", "aab"}, {"a", "aaa", "aa", "aaaaaa"}, {"a{2}", "aaaaa", "b", "bba"}, {"x", "x\nx", "\t", "\t\n\t"}, {"a", "a", "&{}1", "&{}1"},
	} {
		if got, e := compile(t, x.pattern, "").Replace(x.s, x.with); got != x.want || e != api.OK {
			t.Errorf("%q in %q by %q: %q, %d", x.pattern, x.s, x.with, got, e)
		}
	}
}

// P2.3 to P2.5: errors, and which of several comes first.
func TestReplaceErrors(t *testing.T) {
	a, empty, none := compile(t, "a", ""), compile(t, "a*", ""), new(regex.Regex)
	long, bad := strings.Repeat("a", 2048), "\xff"
	big := strings.Repeat("b", api.MaxText)
	for _, x := range []struct {
		r       *regex.Regex
		s, with string
		want    api.Errno
	}{
		{nil, "a", "b", api.ErrNil}, {none, "a", "b", api.ErrNil}, {nil, bad, bad, api.ErrNil}, {none, bad, "$", api.ErrNil}, {none, "", "", api.ErrNil},
		{a, bad, "b", api.ErrText}, {a, "a", bad, api.ErrText}, {a, long, bad, api.ErrText}, {empty, "a", "$" + bad, api.ErrText}, {a, long + bad, "", api.ErrText}, {a, "b", "\x00", api.ErrText},
		{a, long, "b", api.ErrLong}, {empty, long, "b", api.ErrLong}, {a, long, "$", api.ErrLong}, {a, big, "b", api.ErrLong},
		{empty, "a", "b", api.ErrEmpty}, {empty, "", "b", api.ErrEmpty}, {empty, "a", "$", api.ErrEmpty}, {compile(t, "", ""), "a", "b", api.ErrEmpty}, {compile(t, "^", "m"), "a", "b", api.ErrEmpty}, {compile(t, "$", ""), "a", "b", api.ErrEmpty}, {compile(t, "a??", ""), "a", "b", api.ErrEmpty}, {compile(t, "a{0}", ""), "a", "b", api.ErrEmpty}, {compile(t, "a|", ""), "a", "b", api.ErrEmpty},
		{a, "a", "$", api.ErrForm}, {a, "a", "$a", api.ErrForm}, {a, "a", "$$0", api.ErrForm}, {a, "a", `\`, api.ErrForm}, {a, "a", `\0`, api.ErrForm}, {a, "a", `\n`, api.ErrForm}, {a, "a", `\\\`, api.ErrForm}, {a, "a", `$\$`, api.ErrForm}, {a, "a", `\$$`, api.ErrForm}, {a, "a", "0$", api.ErrForm}, {a, "a", "$-1", api.ErrForm}, {a, "a", "${1}", api.ErrForm}, {a, "a", "$\u0661", api.ErrForm}, {a, "b", "$", api.ErrForm}, {a, "", `\`, api.ErrForm}, {a, "aa", big + "$", api.ErrForm},
		{a, "aa", big, api.ErrLong}, {a, "ab", big, api.ErrLong}, {a, "ba", big, api.ErrLong}, {a, "a", big + "b", api.ErrLong}, {a, "a", big, api.OK}, {a, "b", big + "b", api.OK}, {a, "", big + big, api.OK}, {a, "a", big + "$9$8", api.OK}, {a, "a", big + "$0", api.ErrLong},
		{a, long[:1024], big[:1024], api.OK}, {a, long[:1024] + "c", big[:1024], api.ErrLong}, {a, long[:2047], big[:512], api.OK}, {a, long[:2047], big[:513], api.ErrLong}, {a, long[:2047], big, api.ErrLong}, {compile(t, "a+", ""), long[:1447], strings.Repeat("$0", api.MaxText/2), api.ErrLong},
	} {
		got, e := x.r.Replace(x.s, x.with)
		if e != x.want || e != api.OK && got != "" {
			t.Errorf("Replace in %.10q by %.10q: %.10q, %d, not %d", x.s, x.with, got, e, x.want)
		}
		if x.want == api.ErrForm || x.with == bad || x.with == "\x00" || x.with == "$"+bad || len(x.with) >= 512 {
			continue
		}
		tokens, e1 := x.r.Tokens(x.s)
		pieces, e2 := x.r.Pieces(x.s)
		if e1 != x.want || e2 != x.want || e1 != api.OK && (tokens != nil || pieces != nil) {
			t.Errorf("Tokens and Pieces of %.10q: %d, %d, not %d", x.s, e1, e2, x.want)
		}
	}
}

// P2.4: what is between matches.
func TestTokens(t *testing.T) {
	for _, x := range []struct {
		pattern, s string
		want       []string
	}{
		{",", "", []string{""}}, {",", "a", []string{"a"}}, {",", ",", []string{"", ""}}, {",", ",,a,", []string{"", "", "a", ""}}, {",", "a,b", []string{"a", "b"}}, {"(,)|(;)", "a,b;c", []string{"a", "b", "c"}}, {"a+", "aaa", []string{"", ""}}, {"a+?", "aaa", []string{"", "", "", ""}}, {"\u20ac", "\u00e9\u20ac\U0001f600", []string{"\u00e9", "\U0001f600"}}, {`\s+`, " a  b\n", []string{"", "a", "b", ""}}, {"^a", "aab", []string{"", "ab"}},
	} {
		r := compile(t, x.pattern, "")
		for range 2 {
			l, e := r.Tokens(x.s)
			if !slices.Equal(l, x.want) || e != api.OK {
				t.Errorf("%q in %q: %q, %d", x.pattern, x.s, l, e)
			}
			clear(l)
		}
	}
}

// P2.5: matches with groups, and what is between them.
func TestPieces(t *testing.T) {
	no := func(s string) regex.Piece { return regex.Piece{Text: s} }
	yes := func(s string, groups ...string) regex.Piece { return regex.Piece{s, true, groups} }
	for _, x := range []struct {
		pattern, s string
		want       []regex.Piece
	}{
		{"a", "", nil}, {"a", "b", []regex.Piece{no("b")}}, {"a", "a", []regex.Piece{yes("a")}}, {"a", "aa", []regex.Piece{yes("a"), yes("a")}}, {"a", "xayyaz", []regex.Piece{no("x"), yes("a"), no("yy"), yes("a"), no("z")}},
		{"(a)(b)?", "abxa", []regex.Piece{yes("ab", "a", "b"), no("x"), yes("a", "a", "")}}, {"(?:(a)|(b))(c*)", "\u20acbcc", []regex.Piece{no("\u20ac"), yes("bcc", "", "b", "cc")}}, {"((\u00e9)x)", "\u00e9x\u00e9", []regex.Piece{yes("\u00e9x", "\u00e9x", "\u00e9"), no("\u00e9")}}, {"a()", "ba", []regex.Piece{no("b"), yes("a", "")}}, {"(a){0}b", "ab", []regex.Piece{no("a"), yes("b", "")}},
	} {
		r := compile(t, x.pattern, "")
		for range 2 {
			l, e := r.Pieces(x.s)
			if !reflect.DeepEqual(l, x.want) || e != api.OK {
				t.Errorf("%q in %q: %v, %d", x.pattern, x.s, l, e)
			}
			for i := range l {
				clear(l[i].Groups)
				l[i] = regex.Piece{}
			}
		}
	}
	l, _ := compile(t, "(a)", "").Pieces("aa")
	l[0].Groups[0] = "x"
	if l[1].Groups[0] != "a" {
		t.Error("two pieces share memory")
	}
}

// P2.2: an expression is used by several calls at the same time.
func TestTogether(t *testing.T) {
	r := compile(t, "(a+)(b|c)*d", "i")
	s := strings.Repeat("aAbcx", 20) + "aabcbd"
	want := []int{100, 106, 100, 102, 104, 105}
	var w sync.WaitGroup
	for range 8 {
		w.Go(func() {
			for range 50 {
				if loc, ok := r.Find(s, 0); !ok || !slices.Equal(loc, want) {
					t.Error(loc)
				}
			}
		})
	}
	w.Wait()
}
