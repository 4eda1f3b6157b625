package coll_test

import (
	"bytes"
	"math/rand/v2"
	"reflect"
	"strings"
	"sync"
	"testing"

	"chisel/api"
	"chisel/chars"
	"chisel/coll"
)

// example is the description of the chapter's examples.
const example = "ignore -\na , A < b < c ; U+E7 , C"

// The examples of the chapter.
func TestExamples(t *testing.T) {
	u := table(t, example)
	for c, w := range map[string][3]int{"a": {1, 1, 1}, "A": {1, 2, 1}, "b": {2, 1, 1}, "c": {3, 1, 1}, "\u00e7": {3, 1, 2}, "C": {3, 2, 1}, "x": {124, 1, 1}} {
		if k := u.Key(c); !bytes.Equal(k, bytesOf(w[0], 0, w[1], 0, w[2])) {
			t.Errorf("Key of %s: % x", c, k)
		}
	}
	if k := u.Key("-bA"); !bytes.Equal(k, bytesOf(2, 1, 0, 1, 2, 0, 1, 1)) {
		t.Errorf("Key of -bA: % x", k)
	}
	for _, x := range []struct {
		a, b string
		want int
	}{{"ab", "Aa", 1}, {"a", "A", -1}, {"a-b", "ab", 0}, {"C", "cc", -1}} {
		if got := u.Compare(x.a, x.b); got != x.want {
			t.Errorf("Compare of %s and %s: %d", x.a, x.b, got)
		}
	}
	var none *coll.Table
	if k := none.Key("ab"); !bytes.Equal(k, bytesOf(0x62, 0x63)) {
		t.Errorf("Key of ab for a nil Table: % x", k)
	}
}

// P3.1: descriptions that are well formed.
func TestForms(t *testing.T) {
	for _, text := range []string{
		"", " ", "\n", "\n\n \n", "#", "# a < < b", "#a", "  #\x7f", "strength 1", "strength 2", "strength 3", "  strength   3  ",
		"ignore a", "ignore # 1 \t \r \u00e9 \U0001f600", "ignore U+0041 U+00e9 U+3c U+2C U+3B", "ignore U +", "ignore u", "ignore i s",
		"a", "a < b", "a , b ; c < d", "a  <   b ", "1", "1 < 2", "\t", "\r", "U", "+ < U", "a < #", "U+23 < a", "U+61 , b", "U+9", "U+000009", "U+A", "U+D", "U+20", "U+d7FF < U+E000", "U+FFFD ; U+10000 ; U+10FFFF", "U+10ffff",
		"strength 1\nignore a\nb < c\nd\n# a\n", "b\nignore a\nc\nstrength 2", "\ufeff", "\u00a0 < \u2003",
	} {
		table(t, text)
	}
}

// P3.1: lines that have none of the forms, alone and after others.
func TestWrongForms(t *testing.T) {
	for _, text := range []string{
		"strength", "strength 0", "strength 4", "strength 01", "strength 12", "strength 1 2", "strength 1 # a", "strength a", "strength U+31", "Strength 1", "strength1", "strength\t1", "1 strength", "strength \uff11",
		"ignore", "ignore ab", "ignore <", "ignore ,", "ignore a ;", "ignore a , b", "ignore ignore", "ignore U+", "ignore \u00e9\u00e9", "Ignore a", "ignore\ta", "a ignore",
		"<", ",", ";", "< a", "a <", "a ,", "a b", "a < < b", "a <b", "a<b", "a < b c", "a < b c <", "a U+3C b", "a U+2C U+62", "a , ; b", "a <, b", "a = b", "a > b", "ab", "a\t", "\ta", "a\r", "\t < \r\r", "e\u0301", "a < b # c",
		"U+", "U+g", "U+D800", "U+DFFF", "U+FFFE", "U+ffff", "U+110000", "U+FFFFFF", "U+0", "U+000000", "U+8", "U+B", "U+1F", "U+0000041", "U+00000000000000041", "U+100000041", "u+41", "U-41", "+41", "U+-41", "U++41", "U+0x41", "U+4_1", "U+41 U+42", "U+41 < U+", "U+41a\u00e9", "U+\uff11", "a < U+d800",
	} {
		for _, x := range []struct {
			before string
			line   int
		}{{"", 1}, {"\n", 2}, {"strength 1\n# b\n\nignore a\n", 5}} {
			for _, after := range []string{"", "\n", "\n<", "\nz\nz", "\nstrength 1\nstrength 2"} {
				if u, line, e := coll.Parse(x.before + text + after); u != nil || line != x.line || e != api.ErrForm {
					t.Errorf("Parse of %q: %v, %d, %d", x.before+text+after, u, line, e)
				}
			}
		}
	}
}

// P3.1: what is there twice, and that the form comes first.
func TestTwice(t *testing.T) {
	for _, x := range []struct {
		text string
		line int
		e    api.Errno
	}{
		{"strength 1\nstrength 1", 2, api.ErrTwice}, {"strength 3\n\n#\nstrength 2\n<", 4, api.ErrTwice}, {"strength 1\nstrength 4", 2, api.ErrForm}, {"strength 4\nstrength 1", 1, api.ErrForm},
		{"a < a", 1, api.ErrTwice}, {"a , b ; a", 1, api.ErrTwice}, {"ignore a a", 1, api.ErrTwice}, {"a\na", 2, api.ErrTwice}, {"a < b\nc ; a", 2, api.ErrTwice}, {"a < b\n\nc ; d , b", 3, api.ErrTwice},
		{"ignore a\nb < a", 2, api.ErrTwice}, {"b < a\nignore c a", 2, api.ErrTwice}, {"ignore a\nignore a", 2, api.ErrTwice}, {"a < U+61", 1, api.ErrTwice}, {"U+0061 , U+61", 1, api.ErrTwice}, {"U+e9 , U+E9", 1, api.ErrTwice}, {"ignore \u00e9\nU+E9", 2, api.ErrTwice}, {"ignore U+20\nU+0020", 2, api.ErrTwice},
		{"a < a <", 1, api.ErrForm}, {"ignore a a bb", 1, api.ErrForm}, {"a < a\n<", 1, api.ErrTwice}, {"a\na U+D800", 2, api.ErrForm}, {"a < b\nc ; a", 2, api.ErrTwice},
		{"a < A", 0, api.OK}, {"e < \u00e9 < E", 0, api.OK}, {"# a\na", 0, api.OK}, {"ignore 1\nstrength 1", 0, api.OK},
	} {
		u, line, e := coll.Parse(x.text)
		if line != x.line || e != x.e || (u == nil) != (e != api.OK) {
			t.Errorf("Parse of %q: %v, %d, %d", x.text, u, line, e)
		}
	}
}

// P3.1: lines by chance, most of which are wrong, and descriptions that are right.
func TestParse(t *testing.T) {
	g := rand.New(rand.NewPCG(1, 2))
	found := map[api.Errno]int{}
	for range 200000 {
		text := someWrong(g)
		wantLine, want := verdict(text)
		found[want]++
		if u, line, e := coll.Parse(text); line != wantLine || e != want || (u == nil) != (e != api.OK) {
			t.Fatalf("Parse of %q: %v, %d, %d, not %d, %d", text, u, line, e, wantLine, want)
		}
	}
	if found[api.OK] < 10000 || found[api.ErrForm] < 10000 || found[api.ErrTwice] < 10000 {
		t.Error(found)
	}
	for range 10000 {
		d := define(g, g.IntN(4))
		if line, e := verdict(d.text); line != 0 || e != api.OK {
			t.Fatalf("%q: %d, %d", d.text, line, e)
		}
		table(t, d.text)
	}
}

// many returns a line of n characters from the code point c on.
func many(first, sign string, c, n int) string {
	l := make([]string, n)
	for i := range l {
		l[i] = string(rune(c + i))
	}
	return first + strings.Join(l, sign)
}

// P3.1: the numbers of characters and bytes, and the errors that come before and after them.
func TestLimits(t *testing.T) {
	const c = 0x4e00
	for _, x := range []struct {
		text string
		line int
		e    api.Errno
	}{
		{many("", " < ", c, 4096), 0, api.OK}, {many("", " < ", c, 4097), 1, api.ErrLong}, {many("ignore ", " ", c, 4096), 0, api.OK}, {many("ignore ", " ", c, 4097), 1, api.ErrLong},
		{many("", " ; ", c, 4095) + "\n\nignore a", 0, api.OK}, {many("", " ; ", c, 4095) + "\n\nignore a b", 3, api.ErrLong}, {many("ignore ", " ", c, 4096) + "\na\nb", 2, api.ErrLong}, {many("ignore ", " ", c, 4096) + "\n# a\nstrength 2\n", 0, api.OK},
		{many("", " , ", c, 4097) + " < " + string(rune(c)), 1, api.ErrTwice}, {many("", " , ", c, 5000) + " <", 1, api.ErrForm}, {many("", " , ", c, 4096) + "\n" + string(rune(c)), 2, api.ErrTwice}, {many("", " , ", c, 4097) + "\n" + string(rune(c)), 1, api.ErrLong}, {many("", " , ", c, 4096) + "\na < b <\nc", 2, api.ErrForm},
		{many("", "\n", c, 4096), 0, api.OK}, {many("", "\n", c, 5000), 4097, api.ErrLong},
		{"#" + strings.Repeat("a", api.MaxText-1), 0, api.OK}, {"#" + strings.Repeat("a", api.MaxText), 0, api.ErrLong}, {"#" + strings.Repeat("\u00e9", api.MaxText/2), 0, api.ErrLong}, {strings.Repeat(" ", api.MaxText), 0, api.OK}, {strings.Repeat("\n", api.MaxText), 0, api.OK}, {strings.Repeat("\n", api.MaxText-1) + "<", api.MaxText, api.ErrForm},
		{strings.Repeat("<", api.MaxText+1), 0, api.ErrLong}, {"\xff" + strings.Repeat("a", api.MaxText), 0, api.ErrLong}, {strings.Repeat("a < ", api.MaxText/4), 1, api.ErrForm}, {strings.Repeat("a < ", api.MaxText/4-1) + "a", 1, api.ErrTwice},
	} {
		u, line, e := coll.Parse(x.text)
		if line != x.line || e != x.e || (u == nil) != (e != api.OK) {
			t.Errorf("Parse of %.30q, %d bytes: %d, %d, not %d, %d", x.text, len(x.text), line, e, x.line, x.e)
		}
	}
}

// P3.1: descriptions that are no texts.
func TestNotTexts(t *testing.T) {
	for _, s := range []string{"\xff", "\x00", "a\x0b", "#\xc3", "a < \xed\xa0\x80", "<\n\xfe", "a\na\n\uffff", "\xc1\x81"} {
		if u, line, e := coll.Parse(s); u != nil || line != 0 || e != api.ErrText {
			t.Errorf("Parse of %q: %v, %d, %d", s, u, line, e)
		}
	}
}

// P3.2: the weights, in the order of the lines, with what is between them, and the levels of a key.
func TestWeights(t *testing.T) {
	for _, x := range []struct {
		text, s string
		want    []int
	}{
		{"", "", []int{0, 0}}, {"", "a", []int{98, 0, 1, 0, 1}}, {"", "\t\U0010ffff", []int{10, 0x110000, 0, 1, 1, 0, 1, 1}},
		{"strength 1", "", nil}, {"strength 1", "ba", []int{99, 98}}, {"strength 2", "", []int{0}}, {"strength 2", "ba", []int{99, 98, 0, 1, 1}}, {"strength 3", "b", []int{99, 0, 1, 0, 1}},
		{"a", "ab", []int{1, 100, 0, 1, 1, 0, 1, 1}}, {"ignore a", "ab", []int{99, 0, 1, 0, 1}}, {"ignore a", "aaa", []int{0, 0}}, {"strength 1\nignore a b", "abba", nil},
		{"b < a", "ab", []int{2, 1, 0, 1, 1, 0, 1, 1}}, {"b , a", "ab", []int{1, 1, 0, 2, 1, 0, 1, 1}}, {"b ; a", "ab", []int{1, 1, 0, 1, 1, 0, 2, 1}},
		{"a\nb", "ab", []int{1, 2, 0, 1, 1, 0, 1, 1}}, {"a , b ; c\n\nignore x\nd ; e , f ; g", "cdefg", []int{1, 2, 2, 2, 2, 0, 2, 1, 1, 2, 2, 0, 2, 1, 2, 1, 2}},
		{"a ; b ; c , d , e ; f < g ; h", "abcdefgh", []int{1, 1, 1, 1, 1, 1, 2, 2, 0, 1, 1, 1, 2, 3, 3, 1, 1, 0, 1, 2, 3, 1, 1, 2, 1, 2}},
		{"a < b , c\nignore -\nstrength 1\nd", "abcd-e", []int{1, 2, 2, 3, 'e' + 4}}, {"U+20 < U+A < U+3C < #\nstrength 1", "# <\n", []int{4, 1, 3, 2}},
		{"strength 1\nU+10FFFF", "\U0010ffff\U0010fffe", []int{1, 0x110000}}, {many("strength 1\n", "\n", 0x4e00, 4096), "\u5dff\U0010ffff\u5e00", []int{4096, 0x10ffff + 4097, 0x5e00 + 4097}},
	} {
		if k := table(t, x.text).Key(x.s); !bytes.Equal(k, bytesOf(x.want...)) {
			t.Errorf("Key of %q for %.40q: % x", x.s, x.text, k)
		}
	}
}

// P3.2 and P3.3: descriptions and texts by chance.
func TestDefinition(t *testing.T) {
	g := rand.New(rand.NewPCG(3, 4))
	for range 20000 {
		d := define(g, g.IntN(4))
		u := table(t, d.text)
		a, b := someText(g), someText(g)
		k, l := d.key(a), d.key(b)
		if got := u.Key(a); !bytes.Equal(got, k) {
			t.Fatalf("Key of %q for %q: % x, not % x", a, d.text, got, k)
		}
		want := 0
		if before(k, l) {
			want = -1
		} else if before(l, k) {
			want = 1
		}
		if got := u.Compare(a, b); got != want {
			t.Fatalf("Compare of %q and %q for %q: %d, not %d", a, b, d.text, got, want)
		}
	}
}

// P3.2 and P3.3: strings that are no texts have no bytes; so they are equal, and before all that have some.
func TestNoKey(t *testing.T) {
	for _, u := range []*coll.Table{nil, new(coll.Table), table(t, ""), table(t, example), table(t, "strength 1")} {
		for _, s := range []string{"\xff", "a\xff", "\x00", "ab\x0b", "\xed\xa0\x80", "\ufffe", "\xc3"} {
			if k := u.Key(s); len(k) != 0 {
				t.Errorf("Key of %q: % x", s, k)
			}
			if u.Compare(s, "a") != -1 || u.Compare("a", s) != 1 || u.Compare(s, "\xfe") != 0 || u.Compare(s, s) != 0 {
				t.Errorf("Compare of %q", s)
			}
		}
	}
	if u := table(t, "strength 1"); u.Compare("", "\xff") != 0 {
		t.Error("an empty key")
	}
	if u := table(t, "strength 2"); u.Compare("", "\xff") != 1 {
		t.Error("a key that is not empty")
	}
}

// A nil Table, and one that Parse did not return, are as that of `strength 1`.
func TestNoTable(t *testing.T) {
	g := rand.New(rand.NewPCG(5, 6))
	u := table(t, "strength 1")
	for _, none := range []*coll.Table{nil, new(coll.Table)} {
		for range 2000 {
			a, b := someText(g), someText(g)
			if !bytes.Equal(none.Key(a), u.Key(a)) || none.Compare(a, b) != u.Compare(a, b) || none.Compare(a, b) != strings.Compare(a, b) {
				t.Fatalf("%q and %q: % x, %d", a, b, none.Key(a), none.Compare(a, b))
			}
		}
	}
}

// P3.3: a key that another one begins with comes first, and each byte counts.
func TestCompare(t *testing.T) {
	u := table(t, "strength 2\nignore -\na , A < b , B")
	for _, x := range []struct {
		a, b string
		want int
	}{
		{"", "", 0}, {"", "a", -1}, {"a", "aa", -1}, {"ab", "b", -1}, {"A", "aa", -1}, {"Ab", "aB", 1}, {"AB", "aB", 1}, {"a-", "-a", 0}, {"", "--", 0}, {"b", "x", -1}, {"\u00ff", "\u0100", -1}, {"\ufffd", "\U00010000", -1}, {"\u0100", "a", 1},
	} {
		if u.Compare(x.a, x.b) != x.want || u.Compare(x.b, x.a) != -x.want {
			t.Errorf("Compare of %q and %q: %d, %d", x.a, x.b, u.Compare(x.a, x.b), u.Compare(x.b, x.a))
		}
	}
}

// P3.2: long texts.
func TestLongTexts(t *testing.T) {
	u := table(t, example)
	s := strings.Repeat("aB-\u20ac", api.MaxText/6)
	if k, n := u.Key(s), chars.Len(s)*3/4; len(k) != 3*(3*n+2) {
		t.Error(len(k), n)
	}
	if u.Compare(s, s+"a") != -1 || u.Compare(s+"-", s) != 0 {
		t.Error("Compare")
	}
}

// R1 and R5: equal calls have equal results, which share no memory; a Table stays as it is, and can be used by several goroutines.
func TestNewMemory(t *testing.T) {
	u, w := table(t, example), table(t, example)
	if u == w || !reflect.DeepEqual(u, w) {
		t.Error("equal calls of Parse")
	}
	k := u.Key("abc")
	clear(k)
	if !bytes.Equal(u.Key("abc"), w.Key("abc")) || !reflect.DeepEqual(u, w) {
		t.Error("a key shares memory")
	}
	table(t, "c < b < a")
	if u.Compare("a", "c") != -1 {
		t.Error("a Table was changed")
	}
	var group sync.WaitGroup
	for range 8 {
		group.Go(func() {
			for range 100 {
				if u.Compare("a-b\u00e7", "abc") != 1 {
					t.Error("Compare")
				}
			}
		})
	}
	group.Wait()
}
