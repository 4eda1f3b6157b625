package atom_test

import (
	"math"
	"slices"
	"strings"
	"sync"
	"testing"

	"chisel/api"
	"chisel/atom"
)

// names returns the names that these tests give the kinds, in the order of their numbers.
func names() []string {
	return []string{"untyped", "string", "bool", "integer", "decimal", "double", "date", "time", "moment", "months", "seconds"}
}

// kindOf returns the kind with a name.
func kindOf(name string) int {
	kind := slices.Index(names(), name)
	if kind < 0 {
		panic(name)
	}
	return kind
}

// v returns a value that is written as the name of its kind, a blank, and its text.
func v(s string) api.Atom {
	name, text, _ := strings.Cut(s, " ")
	return api.Atom{Kind: kindOf(name), Text: text}
}

// noKinds returns numbers that are no kinds.
func noKinds() []int {
	return []int{-1, -2, 11, 12, 64, 255, 256, 256 + api.AtomInteger, 1 << 32, 1<<32 + api.AtomString, math.MaxInt, math.MinInt}
}

// zeros and nines return n of these digits.
func zeros(n int) string { return strings.Repeat("0", n) }
func nines(n int) string { return strings.Repeat("9", n) }

// The least number above 0, and the greatest one.
var (
	least    = "0." + zeros(19) + "1"
	greatest = nines(30) + "." + nines(20)
)

// canonical has canonical texts of each kind.
var canonical = canonicalTexts()

func canonicalTexts() map[string][]string {
	texts := []string{"", "a", "b", "ab", "A", " a ", "é", "\t\n\r ", "true", "0", "1", "-0", "NaN", "1.5", "\u0085", "\ufffd", "\ue000", "\ud7ff", "\U00010000", "\U0010ffff", "2026-11-16", "P1M", "PT1S"}
	integers := []string{"0", "1", "-1", "2", "7", "-7", "10", "100", "12345678901234567890", "9007199254740993", nines(30), "-" + nines(30), "1" + zeros(29)}
	return map[string][]string{
		"untyped": texts,
		"string":  texts,
		"bool":    {"false", "true"},
		"integer": integers,
		"decimal": append([]string{"0.1", "-0.1", "0.5", "-0.5", "1.5", "-1.5", "2.25", "0.05", "10.01", least, "-" + least, "0." + nines(20), greatest, "-" + greatest, "0.3"}, integers...),
		"double":  {"NaN", "INF", "-INF", "0", "-0", "1", "-1", "2", "0.1", "0.5", "-0.5", "1.5", "7", "-7", "0.000001", "999999.5", "100", "1.0E6", "5.0E-7", "9.99E-7", "-1.5E300", "5.0E-324", "-5.0E-324", "1.7976931348623157E308", "0.30000000000000004", "9.007199254740992E15", "1.0E22", "1.0E30", "1.2345678901234567E19", "1.0E-21"},
		"date":    {"2026-11-16", "2026-11-16Z", "2026-11-16+14:00", "2026-11-16-14:00", "2026-11-17+00:01", "2026-11-15-00:01", "0001-01-01", "9999-12-31", "2024-02-29", "1970-01-01", "2000-01-31-05:30"},
		"time":    {"00:00:00", "23:59:59.999999", "10:30:00", "10:30:00Z", "10:30:00.5", "09:08:07.06+13:59", "10:30:00-08:00", "18:30:00Z", "23:59:59-14:00", "00:00:00+14:00"},
		"moment":  {"2026-11-16T00:00:00", "2026-11-16T10:30:00Z", "2026-11-16T23:59:59.999999-14:00", "0001-01-01T00:00:00", "9999-12-31T23:59:59.999999", "2024-02-29T12:00:00+05:30", "2026-11-16T00:00:00.000001+14:00", "1970-01-01T00:00:00", "2026-11-16T02:30:00-08:00"},
		"months":  {"P0M", "P1M", "-P1M", "P11M", "P1Y", "-P1Y", "P1Y1M", "-P2Y11M", "P10Y10M", "P833333333Y3M", "-P833333333Y3M"},
		"seconds": {"PT0S", "PT1S", "-PT1S", "PT0.5S", "PT59.999S", "PT1M", "PT59M59S", "PT1H", "PT23H59M59S", "P1D", "-P1D", "P1DT1S", "P1DT2H3M4.5S", "-P1DT2H3M4.5S", "P10DT10H10M10S", "PT" + least + "S", "P11574074074074074074074074DT1H46M39." + nines(20) + "S", "-P11574074074074074074074074DT1H46M39." + nines(20) + "S"},
	}
}

// otherwise returns strings that are no canonical texts of each kind; those of the strings are no texts at all.
func otherwise() map[string][]string {
	none := []string{"\x00", "\x01", "\x1f", "\v", "\f", "\xff", "a\xff", "\xc3", "a\x00b", "\xed\xa0\x80", "\xed\xbf\xbf", "\uffff", "\ufffe", "\xc0\x80", "\xc1\x81", "\xe0\x80\x80", "\xf0\x80\x80\x80", "\xf4\x90\x80\x80", "\xf8\x88\x80\x80\x80"}
	numbers := []string{"", "-", "+", ".", "-0", "-0.0", "0.0", "00", "01", "-01", "+1", "+0", "1.", ".5", "-.5", "1.0", "1.50", "-1.0", "--1", "1.2.3", "1e3", "1.0E6", "0x1", "1_000", " 1", "1 ", "1\n", "- 1", "a", "INF", "NaN", "true", "\u0661", "\u22121", "1\xff", "1\x00", "1" + zeros(30), nines(31), "-" + nines(31), "0." + nines(21), "1." + zeros(20), zeros(200), nines(201)}
	return map[string][]string{
		"untyped": none,
		"string":  none,
		"bool":    {"", "1", "0", "TRUE", "True", "FALSE", "t", "f", "yes", " true", "true ", "false\n", "truefalse", "true\x00", "tru", "-0", "NaN"},
		"integer": append([]string{"0.5", "1.5", "-0.1", least, "10.01"}, numbers...),
		"decimal": numbers,
		"double":  {"", "-", "+", ".", "01", "1.0", "-1.0", "1.50", "+1", "+0", "0.0", "-0.0", "1.", ".5", "1e3", "1E3", "1.0e6", "1E6", "1.E6", "1.0E06", "1.0E+6", "1.0E5", "10.0E5", "0.1E7", "1.50E6", "1000000", "-1000000", "9007199254740992", "1.0E-6", "1.5E0", "0.0000005", "5E-7", "5.0E-07", "+INF", "inf", "Infinity", "-NaN", "nan", "1.0E400", "1.0E-400", "-1.0E-400", "0.1000000000000000055", "0.30000000000000004441", "9.0071992547409921E15", "4.9E-324", "3.0E-324", " 1", "1 ", "\n1", "1\xff", "0x1p3", "1_0", "true", "\u0661"},
		"date":    {"", "2026", "2026-1-1", "02026-11-16", "-2026-11-16", "2026-02-29", "2026-04-31", "2026-13-01", "0000-01-01", "10000-01-01", "2026-11-16+00:00", "2026-11-16-00:00", "2026-11-16z", "2026-11-16+14:01", "2026-11-16+1:00", "2026-11-16-24:00", " 2026-11-16", "2026-11-16 ", "2026-11-16\n", "2026-11-16T00:00:00", "10:30:00", "2026/11/16", "2026-11-16\xff"},
		"time":    {"", "10:30", "1:30:00", "24:00:00", "24:00:00Z", "25:00:00", "10:60:00", "10:30:60", "10:30:00.0", "10:30:00.50", "10:30:00.1234567", "10:30:00.", "10:30:00+00:00", "10:30:00-00:00", "10:30:00z", "10:30:00+14:01", " 10:30:00", "10:30:00 ", "2026-11-16T10:30:00", "2026-11-16", "T10:30:00", "PT1S"},
		"moment":  {"", "2026-11-16", "10:30:00", "2026-11-16T24:00:00", "2026-11-16T10:30:00.0", "2026-11-16T10:30:00.10", "2026-11-16T10:30:00+00:00", "2026-11-16T10:30:00-00:00", "2026-11-16 10:30:00", "2026-11-16t10:30:00", "2026-11-16T10:30", "2026-02-29T00:00:00", "9999-12-31T24:00:00", "2026-11-16ZT10:30:00", "2026-11-16T10:30:00Z ", " 2026-11-16T10:30:00"},
		"months":  {"", "P", "-P", "P0Y", "-P0M", "P00M", "P12M", "P13M", "P0Y1M", "P1Y0M", "P01M", "P01Y", "P1Y12M", "P1M1Y", "+P1M", "P-1M", "P1.5M", "p1m", "P1Y1", "P1D", "PT1M", "P833333333Y4M", "P9999999999Y", "-P833333333Y4M", " P1M", "P1M ", "P1Y2M3D", "12"},
		"seconds": {"", "P", "PT", "P0D", "-PT0S", "PT0.0S", "PT0M", "PT60S", "PT60M", "PT24H", "P1DT", "P1DT0S", "P0DT1S", "PT0H1S", "PT01S", "P01D", "PT1.0S", "PT1.50S", "PT.5S", "+PT1S", "P1M", "P1Y", "pt1s", "PT1S1M", "PT0." + zeros(20) + "1S", "P11574074074074074074074074DT1H46M40S", "P" + nines(30) + "D", " PT1S", "PT1S\n", "1"},
	}
}

// values returns valid values of all kinds.
func values() []api.Atom {
	var l []api.Atom
	for kind, name := range names() {
		for _, s := range canonical[name] {
			l = append(l, api.Atom{Kind: kind, Text: s})
		}
	}
	return l
}

// notValid returns values that are not valid.
func notValid() []api.Atom {
	var l []api.Atom
	for kind, name := range names() {
		for _, s := range otherwise()[name] {
			l = append(l, api.Atom{Kind: kind, Text: s})
		}
	}
	for _, kind := range noKinds() {
		for _, s := range []string{"", "a", "0", "1", "true", "2026-11-16", "P1M", "PT1S", "\xff"} {
			l = append(l, api.Atom{Kind: kind, Text: s})
		}
	}
	return l
}

// checkCast checks the text of a converted value.
func checkCast(t *testing.T, from, kind, want string) {
	t.Helper()
	if got, e := atom.Cast(v(from), kindOf(kind)); got != v(kind+" "+want) || e != api.OK {
		t.Errorf("Cast of %q to %s: %q, %d, not %q", from, kind, got.Text, e, want)
	}
}

// checkNoCast checks that values cannot be converted.
func checkNoCast(t *testing.T, kind string, from ...string) {
	t.Helper()
	for _, s := range from {
		if got, e := atom.Cast(v(s), kindOf(kind)); got != (api.Atom{}) || e != api.ErrCast {
			t.Errorf("Cast of %.80q to %s: %q, %d", s, kind, got.Text, e)
		}
	}
}

// checkArith checks a result.
func checkArith(t *testing.T, a, op, b, want string) {
	t.Helper()
	if got, e := atom.Arith(op, v(a), v(b)); got != v(want) || e != api.OK {
		t.Errorf("%s %s %s: %d %s, %d, not %s", a, op, b, got.Kind, got.Text, e, want)
	}
}

// checkArithError checks an error.
func checkArithError(t *testing.T, a, op, b string, want api.Errno) {
	t.Helper()
	if got, e := atom.Arith(op, v(a), v(b)); got != (api.Atom{}) || e != want {
		t.Errorf("%s %s %s: %v, %d, not %d", a, op, b, got, e, want)
	}
}

// comparisons returns the ops of Compare, and for each whether it holds if the first value is less, equal, greater, or none of these.
func comparisons() map[string][4]bool {
	return map[string][4]bool{
		"eq": {false, true, false, false},
		"ne": {true, false, true, true},
		"lt": {true, false, false, false},
		"le": {true, true, false, false},
		"gt": {false, false, true, false},
		"ge": {false, true, true, false},
	}
}

// checkOrder checks what all comparisons of two values return, where order is -1 if the first one is less, 0 if they are equal, 1 if it is greater, and 2 otherwise.
func checkOrder(t *testing.T, a, b string, order int) {
	t.Helper()
	for op, holds := range comparisons() {
		if got, e := atom.Compare(op, v(a), v(b)); got != holds[order+1] || e != api.OK {
			t.Errorf("%s %s %s: %t, %d", a, op, b, got, e)
		}
		back := order
		if order != 2 {
			back = -order
		}
		if got, e := atom.Compare(op, v(b), v(a)); got != holds[back+1] || e != api.OK {
			t.Errorf("%s %s %s: %t, %d", b, op, a, got, e)
		}
	}
}

// checkSame checks whether two values are the same key, in both orders.
func checkSame(t *testing.T, a, b string, want bool) {
	t.Helper()
	if got := atom.Same(v(a), v(b)); got != want {
		t.Errorf("Same of %s and %s: %t", a, b, got)
	}
	if got := atom.Same(v(b), v(a)); got != want {
		t.Errorf("Same of %s and %s: %t", b, a, got)
	}
}

// The examples of the chapter.
func TestExamples(t *testing.T) {
	checkCast(t, "string  007 ", "integer", "7")
	checkNoCast(t, "integer", "string 1.5")
	checkCast(t, "decimal -1.5", "integer", "-1")
	checkCast(t, "double 1.5E10", "integer", "15000000000")
	checkNoCast(t, "integer", "double INF")
	checkCast(t, "moment 2026-11-16T10:30:00Z", "date", "2026-11-16Z")
	checkCast(t, "date 2026-11-16", "moment", "2026-11-16T00:00:00")
	checkOrder(t, "integer 1", "decimal 1", 0)
	checkOrder(t, "string a", "string b", -1)
	if got, e := atom.Compare("eq", v("string 1"), v("integer 1")); got || e != api.ErrType {
		t.Error(got, e)
	}
	checkArith(t, "integer 1", "div", "integer 4", "decimal 0.25")
	checkArith(t, "integer 7", "idiv", "integer -2", "integer -3")
	checkArith(t, "integer 1", "+", "double 0.5", "double 1.5")
	checkArith(t, "date 2026-01-31", "+", "months P1M", "date 2026-02-28")
	checkArith(t, "date 2026-03-01", "-", "date 2026-02-28", "seconds P1D")
	checkArith(t, "months P1M", "*", "decimal 1.5", "months P2M")
	checkSame(t, "integer 1", "double 1", true)
	checkSame(t, "decimal 0.1", "double 0.1", false)
	checkSame(t, "double NaN", "double NaN", true)
}

// P8.1: canonical texts of each kind, and others.
func TestValid(t *testing.T) {
	for _, a := range values() {
		if !atom.Valid(a) {
			t.Errorf("%s %q is not valid", names()[a.Kind], a.Text)
		}
	}
	for _, a := range notValid() {
		if atom.Valid(a) {
			t.Errorf("%d %.80q is valid", a.Kind, a.Text)
		}
	}
	if !atom.Valid(api.Atom{}) {
		t.Error("the empty untyped value is not valid")
	}
}

// P8.1: long texts.
func TestValidLong(t *testing.T) {
	for kind, name := range names() {
		for _, s := range []string{" ", "0", "9", "a", "-", "\xff", "PT", "1.0E6", ".5", "2026-11-16", "é", "00000000000000000000001"} {
			long := strings.Repeat(s, 1<<20/len(s))
			if got, want := atom.Valid(api.Atom{Kind: kind, Text: long}), kind <= api.AtomString && s != "\xff"; got != want {
				t.Errorf("%s of %d bytes of %q: %t", name, len(long), s, got)
			}
		}
	}
}

// P8.2: to its own kind, and to strings, every value keeps its text.
func TestCastKeeps(t *testing.T) {
	for _, a := range values() {
		for _, kind := range []int{a.Kind, api.AtomUntyped, api.AtomString} {
			if got, e := atom.Cast(a, kind); got != (api.Atom{Kind: kind, Text: a.Text}) || e != api.OK {
				t.Errorf("Cast of %d %q to %d: %v, %d", a.Kind, a.Text, kind, got, e)
			}
		}
	}
}

// fromStrings returns, for each kind, what strings are converted to.
func fromStrings() map[string]map[string]string {
	l := map[string]map[string]string{
		"bool":    {"true": "true", "1": "true", "false": "false", "0": "false"},
		"integer": {"007": "7", "+7": "7", "-7": "-7", "-007": "-7", "0": "0", "-0": "0", "+0": "0", "000": "0", "-000": "0", "+00010": "10", zeros(170) + nines(30): nines(30), "-" + zeros(169) + nines(30): "-" + nines(30), zeros(200): "0"},
		"decimal": {"007.50": "7.5", "+7.5": "7.5", "-.50": "-0.5", ".5": "0.5", "5.": "5", "-0.0": "0", "-0": "0", "007": "7", "1.000": "1", "0." + zeros(20) + "6": least, "0." + zeros(20) + "5": "0", "0." + zeros(19) + "15": "0." + zeros(19) + "2", "-0." + zeros(20) + "5": "0", zeros(100) + "1." + zeros(98): "1", greatest + "4": greatest},
		"double":  {"1": "1", "1.0": "1", "+1": "1", "01": "1", "-1.50": "-1.5", ".5": "0.5", "5.": "5", "1e3": "1000", "1E+3": "1000", "1e6": "1.0E6", "1000000": "1.0E6", "5e-7": "5.0E-7", "-0": "-0", "-0.0e5": "-0", "0": "0", "1e400": "INF", "-1e400": "-INF", "1e-400": "0", "-1e-400": "-0", "0.1000000000000000055": "0.1", "NaN": "NaN", "INF": "INF", "-INF": "-INF", "9007199254740993": "9.007199254740992E15", nines(30): "1.0E30", zeros(300) + "1": "1"},
		"date":    {"2026-11-16+00:00": "2026-11-16Z", "2026-11-16-00:00": "2026-11-16Z", "2026-11-16-08:00": "2026-11-16-08:00"},
		"time":    {"24:00:00": "00:00:00", "24:00:00.0-08:00": "00:00:00-08:00", "10:30:00.50": "10:30:00.5", "10:30:05.000": "10:30:05", "10:30:00+00:00": "10:30:00Z"},
		"moment":  {"2026-11-16T24:00:00": "2026-11-17T00:00:00", "2026-11-16T24:00:00.000-08:00": "2026-11-17T00:00:00-08:00", "2026-11-16T10:30:00.10-00:00": "2026-11-16T10:30:00.1Z"},
		"months":  {"P12M": "P1Y", "P0Y": "P0M", "-P0M": "P0M", "P1Y13M": "P2Y1M", "-P14M": "-P1Y2M", "P0001Y02M": "P1Y2M", "P9999999999M": "P833333333Y3M"},
		"seconds": {"PT60S": "PT1M", "PT90M": "PT1H30M", "P0D": "PT0S", "-PT0.0S": "PT0S", "P1DT24H": "P2D", "-PT86400.50S": "-P1DT0.5S", "PT0." + zeros(20) + "6S": "PT" + least + "S", "PT0." + zeros(20) + "5S": "PT0S", "P0DT001H": "PT1H"},
	}
	for kind, texts := range l {
		for _, s := range canonical[kind] {
			texts[s] = s
		}
	}
	return l
}

// P8.2: strings, with and without white space at both ends.
func TestCastStrings(t *testing.T) {
	for kind, texts := range fromStrings() {
		for s, want := range texts {
			for _, around := range [][2]string{{"", ""}, {" ", ""}, {"", " "}, {"\t", "\n"}, {"\r", "\t"}, {"\n", "\r"}, {" \t\r\n ", "\n\r\t "}, {strings.Repeat(" ", 300), strings.Repeat("\n", 300)}} {
				checkCast(t, "string "+around[0]+s+around[1], kind, want)
				checkCast(t, "untyped "+around[0]+s+around[1], kind, want)
			}
			for _, c := range []string{"\u00a0", "\u0085", "\u2003", "\u2028", "\u3000", "\ufeff", "_", "x", "\u00b7", "\u0660"} {
				checkNoCast(t, kind, "string "+c+s, "untyped "+s+c, "string  "+s+c+" ")
			}
		}
	}
}

// unreadable returns, for each kind, texts that stand for nothing.
func unreadable() map[string][]string {
	l := map[string][]string{
		"bool":    {"TRUE", "True", "False", "t", "yes", "01", "1.0", "+1", "-1", "00", "-0", "2", "true false", "truetrue", "NaN", "10", "11", "0 1"},
		"integer": {"1.5", "1.0", "1.", ".5", ".", "1e3", "1E3", "+-1", "--1", "- 1", "+ 1", "1 2", "1,000", "0x1", "1_000", "+", "-", "INF", "NaN", "true", "\u0661", "\u22121", "1" + zeros(30), nines(31), "-" + nines(31), zeros(201), "+" + zeros(200), zeros(200) + "1", "P1M"},
		"decimal": {".", "+", "-", "-.", "1e3", "1.0E6", "1.2.3", "--1", "- 1", "1 .5", "1. 5", "1,5", "0x1", "INF", "NaN", "-INF", "true", "\u0661", "1" + zeros(30), nines(31), greatest + "5", "-" + greatest + "6", zeros(201), "0." + zeros(199)},
		"double":  {".", "+", "-", "e1", "1e", "1e+", "1e1.5", "1.5.2", "1 0", "1 e3", "- 1", "+INF", "+NaN", "-NaN", "inf", "nan", "Infinity", "-inf", "0x1p3", "1_0", "1f", "1d", "true", "\u0661"},
		"date":    {"2026-1-1", "2026-02-29", "2026-11-31", "0000-01-01", "-2026-11-16", "10000-01-01", "2026-11-16z", "2026-11-16+14:01", "2026-11-16 Z", "2026-11-16T00:00:00", "10:30:00", "20261116", "2026"},
		"time":    {"24:00:01", "25:00:00", "10:30", "10:60:00", "10:30:60", "1:30:00", "10:30:00.", "10:30:00.1234567", "10:30:00 Z", "2026-11-16T10:30:00", "2026-11-16"},
		"moment":  {"2026-11-16", "10:30:00", "2026-11-16 10:30:00", "2026-11-16T", "2026-11-16T10:30", "2026-02-29T10:30:00", "2026-11-16T24:00:01", "9999-12-31T24:00:00", "2026-11-16T10:30:00+15:00", "0000-11-16T10:30:00"},
		"months":  {"P", "-P", "P1", "1M", "P1D", "PT1M", "PT1S", "P1Y2M3D", "P1M1Y", "+P1M", "P-1M", "P1.5M", "p1m", "- P1M", "P 1M", "P10000000000M", "P833333333Y4M", "P" + zeros(198) + "1M"},
		"seconds": {"P", "PT", "P1DT", "P1M", "P1Y", "P1Y2M3DT4H5M6S", "PT.5S", "PT5.S", "PT1S1M", "+PT1S", "PT-1S", "pt1s", "P T1S", "- PT1S", "PT1" + zeros(30) + "S", "P" + nines(30) + "D", "PT" + zeros(198) + "1S"},
	}
	for kind := range l {
		l[kind] = append(l[kind], "", " ", "\t\r\n", "a", "\ufffd", strings.Repeat(" ", 1<<20), strings.Repeat("9", 1<<20)+"x")
	}
	return l
}

// P8.2: strings that stand for nothing.
func TestCastStringsErrors(t *testing.T) {
	for kind, texts := range unreadable() {
		for _, s := range texts {
			checkNoCast(t, kind, "string "+s, "untyped "+s, "string  "+s+"\n", "untyped \t"+s)
		}
	}
}

// P8.2: truths and numbers.
func TestCastBool(t *testing.T) {
	for _, kind := range []string{"integer", "decimal", "double"} {
		checkCast(t, "bool true", kind, "1")
		checkCast(t, "bool false", kind, "0")
		for _, s := range canonical[kind] {
			want := "true"
			if s == "0" || s == "-0" || s == "NaN" {
				want = "false"
			}
			checkCast(t, kind+" "+s, "bool", want)
		}
	}
}

// P8.2: numbers and numbers.
func TestCastNumbers(t *testing.T) {
	for _, x := range [][3]string{
		{"integer 0", "decimal", "0"}, {"integer -7", "decimal", "-7"}, {"integer " + nines(30), "decimal", nines(30)},
		{"decimal 0", "integer", "0"}, {"decimal 7", "integer", "7"}, {"decimal 1.5", "integer", "1"}, {"decimal -1.5", "integer", "-1"}, {"decimal 0.9", "integer", "0"}, {"decimal -0.9", "integer", "0"}, {"decimal 2.5", "integer", "2"}, {"decimal 3.5", "integer", "3"}, {"decimal -2.5", "integer", "-2"}, {"decimal 1." + nines(20), "integer", "1"}, {"decimal " + least, "integer", "0"}, {"decimal -" + least, "integer", "0"}, {"decimal " + greatest, "integer", nines(30)}, {"decimal -" + greatest, "integer", "-" + nines(30)},
		{"integer 0", "double", "0"}, {"integer 1", "double", "1"}, {"integer -7", "double", "-7"}, {"integer 999999", "double", "999999"}, {"integer 1000000", "double", "1.0E6"}, {"integer 9007199254740993", "double", "9.007199254740992E15"}, {"integer 9007199254740995", "double", "9.007199254740996E15"}, {"integer " + nines(30), "double", "1.0E30"}, {"integer 12345678901234567890", "double", "1.2345678901234567E19"},
		{"decimal 0", "double", "0"}, {"decimal 0.1", "double", "0.1"}, {"decimal -1.5", "double", "-1.5"}, {"decimal " + least, "double", "1.0E-20"}, {"decimal -" + greatest, "double", "-1.0E30"}, {"decimal 0.00000000000000000005", "double", "5.0E-20"}, {"decimal 0.10000000000000000555", "double", "0.1"},
		{"double 0", "decimal", "0"}, {"double -0", "decimal", "0"}, {"double 1.5", "decimal", "1.5"}, {"double -7", "decimal", "-7"}, {"double 0.1", "decimal", "0.10000000000000000555"}, {"double 1.0E6", "decimal", "1000000"}, {"double 5.0E-7", "decimal", "0.0000005"}, {"double 1.0E-21", "decimal", "0"}, {"double -1.0E-21", "decimal", "0"}, {"double 1.0E-20", "decimal", least}, {"double 5.0E-324", "decimal", "0"}, {"double 1.0E29", "decimal", "99999999999999991433150857216"},
		{"double 0", "integer", "0"}, {"double -0", "integer", "0"}, {"double 1.5", "integer", "1"}, {"double -1.5", "integer", "-1"}, {"double 2.5", "integer", "2"}, {"double 0.9", "integer", "0"}, {"double -0.9", "integer", "0"}, {"double 999999.5", "integer", "999999"}, {"double 1.0E22", "integer", "10000000000000000000000"}, {"double -5.0E-324", "integer", "0"}, {"double 1.0E29", "integer", "99999999999999991433150857216"},
	} {
		checkCast(t, x[0], x[1], x[2])
	}
	for _, kind := range []string{"integer", "decimal"} {
		checkNoCast(t, kind, "double NaN", "double INF", "double -INF", "double 1.0E30", "double -1.0E30", "double 1.0E31", "double -1.5E300", "double 1.7976931348623157E308")
	}
}

// P8.2: dates, times, and both together.
func TestCastMoments(t *testing.T) {
	for _, x := range [][3]string{
		{"moment 2026-11-16T10:30:00Z", "date", "2026-11-16Z"}, {"moment 2026-11-16T23:59:59.999999-14:00", "date", "2026-11-16-14:00"}, {"moment 2024-02-29T12:00:00", "date", "2024-02-29"}, {"moment 0001-01-01T00:00:00+14:00", "date", "0001-01-01+14:00"},
		{"moment 2026-11-16T10:30:00Z", "time", "10:30:00Z"}, {"moment 2026-11-16T23:59:59.999999-14:00", "time", "23:59:59.999999-14:00"}, {"moment 2024-02-29T12:00:00", "time", "12:00:00"}, {"moment 0001-01-01T00:00:00.5+05:30", "time", "00:00:00.5+05:30"},
		{"date 2026-11-16", "moment", "2026-11-16T00:00:00"}, {"date 2026-11-16Z", "moment", "2026-11-16T00:00:00Z"}, {"date 9999-12-31-14:00", "moment", "9999-12-31T00:00:00-14:00"}, {"date 0001-01-01+05:30", "moment", "0001-01-01T00:00:00+05:30"},
	} {
		checkCast(t, x[0], x[1], x[2])
	}
}

// converted returns the kinds to which values of a kind can be converted, beside their own and the strings.
func converted() map[string]string {
	return map[string]string{
		"untyped": "bool integer decimal double date time moment months seconds",
		"string":  "bool integer decimal double date time moment months seconds",
		"bool":    "integer decimal double",
		"integer": "bool decimal double",
		"decimal": "bool integer double",
		"double":  "bool integer decimal",
		"date":    "moment",
		"moment":  "date time",
	}
}

// P8.2: what cannot be converted at all.
func TestCastKinds(t *testing.T) {
	for _, from := range names() {
		for kind, to := range names() {
			if to == from || kind <= api.AtomString || slices.Contains(strings.Fields(converted()[from]), to) {
				continue
			}
			for _, s := range canonical[from] {
				checkNoCast(t, to, from+" "+s)
			}
		}
	}
}

// P8.2: values that are not valid, and kinds that do not exist.
func TestCastArguments(t *testing.T) {
	for _, a := range notValid() {
		for _, kind := range append(noKinds(), a.Kind, api.AtomUntyped, api.AtomString, api.AtomBool, api.AtomInteger, api.AtomDecimal, api.AtomDouble, api.AtomMoment, api.AtomSeconds) {
			if got, e := atom.Cast(a, kind); got != (api.Atom{}) || e != api.ErrArg {
				t.Errorf("Cast of %d %.80q to %d: %v, %d", a.Kind, a.Text, kind, got, e)
			}
		}
	}
	for _, a := range values() {
		for _, kind := range noKinds() {
			if got, e := atom.Cast(a, kind); got != (api.Atom{}) || e != api.ErrArg {
				t.Errorf("Cast of %v to %d: %v, %d", a, kind, got, e)
			}
		}
	}
}

// P8.3: values in ascending order, and exact numbers among them.
func TestCompare(t *testing.T) {
	for _, l := range [][]string{
		{"string |untyped ", "string \t", "untyped  |string  ", "string 0", "untyped 10|string 10", "string 9", "string A", "untyped Z", "string a|untyped a", "untyped a ", "string aa", "string ab", "untyped b|string b", "string é", "untyped \uffee|string \uffee", "string \U00010000"},
		{"bool false", "bool true"},
		{"decimal -" + greatest, "integer -" + nines(30) + "|decimal -" + nines(30), "integer -10", "integer -9|decimal -9", "decimal -1.5", "decimal -1.25", "integer -1", "decimal -" + least, "integer 0|decimal 0", "decimal " + least, "decimal 0.1", "decimal 0.25", "decimal 0.5", "integer 1|decimal 1", "decimal 1.05", "decimal 1.5", "integer 2", "decimal 9.5", "integer 10|decimal 10", "integer 9007199254740992", "integer 9007199254740993", "integer " + nines(30), "decimal " + greatest},
		{"date 0001-01-01+14:00", "date 0001-01-01", "date 1969-12-31", "date 1970-01-01|date 1970-01-01Z", "date 2026-11-16+14:00", "date 2026-11-16+00:01", "date 2026-11-16|date 2026-11-16Z", "date 2026-11-16-00:01", "date 2026-11-17+12:00|date 2026-11-16-12:00", "date 2026-11-17+11:59", "date 2026-11-16-14:00|date 2026-11-17+10:00", "date 2026-11-17", "date 2026-12-01", "date 9999-12-31", "date 9999-12-31-14:00"},
		{"time 00:00:00+14:00", "time 00:00:00", "time 00:00:00.000001", "time 00:00:00.1", "time 09:59:59", "time 10:00:00|time 11:00:00+01:00|time 09:30:00-00:30|time 10:00:00Z", "time 10:30:00|time 10:30:00Z", "time 10:30:00.05", "time 10:30:00.5", "time 10:30:09", "time 10:30:10", "time 23:59:59.999999", "time 23:59:59-14:00"},
		{"moment 0001-01-01T00:00:00+14:00", "moment 0001-01-01T00:00:00", "moment 1969-12-31T23:59:59.5", "moment 1970-01-01T00:00:00|moment 1970-01-01T00:00:00Z|moment 1970-01-01T14:00:00+14:00", "moment 2026-11-16T10:30:00Z|moment 2026-11-16T02:30:00-08:00|moment 2026-11-17T00:30:00+14:00|moment 2026-11-16T10:30:00", "moment 2026-11-16T10:30:00.000001", "moment 2026-11-17T00:00:00", "moment 9999-12-31T23:59:59.999999", "moment 9999-12-31T23:59:59.999999-14:00"},
		{"months -P833333333Y3M", "months -P1Y1M", "months -P1Y", "months -P11M", "months -P2M", "months -P1M", "months P0M", "months P1M", "months P2M", "months P10M", "months P11M", "months P1Y", "months P1Y1M", "months P2Y", "months P9Y", "months P10Y", "months P833333333Y3M"},
		{"seconds -P11574074074074074074074074DT1H46M39." + nines(20) + "S", "seconds -P1D", "seconds -PT1S", "seconds -PT" + least + "S", "seconds PT0S", "seconds PT" + least + "S", "seconds PT0.5S", "seconds PT1S", "seconds PT9S", "seconds PT10S", "seconds PT59.999S", "seconds PT1M", "seconds PT1H", "seconds PT10H", "seconds PT23H59M59S", "seconds P1D", "seconds P1DT0.5S", "seconds P2D", "seconds P10D", "seconds P11574074074074074074074074DT1H46M39." + nines(20) + "S"},
	} {
		checkOrders(t, l, func(a, b api.Atom) bool { return true })
	}
}

// checkOrders checks how values in ascending order are compared, where those in one string, with bars between them, are equal; only pairs that are to be compared.
func checkOrders(t *testing.T, l []string, with func(a, b api.Atom) bool) {
	t.Helper()
	for i, some := range l {
		for k, others := range l {
			for _, a := range strings.Split(some, "|") {
				for _, b := range strings.Split(others, "|") {
					if with(v(a), v(b)) {
						checkOrder(t, a, b, min(max(i-k, -1), 1))
					}
				}
			}
		}
	}
}

// P8.3: numbers of which one is a double.
func TestCompareDoubles(t *testing.T) {
	checkOrders(t, []string{
		"double -INF",
		"double -1.5E300",
		"integer -" + nines(30) + "|double -1.0E30|decimal -" + greatest,
		"double -10",
		"integer -9|double -9|decimal -9",
		"double -1.5|decimal -1.5",
		"double -5.0E-324",
		"integer 0|double 0|double -0|decimal 0",
		"double 5.0E-324",
		"decimal " + least + "|double 1.0E-20",
		"decimal 0.1|double 0.1|decimal 0.10000000000000000555",
		"double 0.10000000000000002",
		"double 1|integer 1|decimal 1",
		"double 9.5",
		"double 10",
		"double 9.007199254740992E15|integer 9007199254740993",
		"double 9.007199254740996E15|integer 9007199254740995",
		"double 1.0E22",
		"double 1.0E30",
		"double 1.5E300",
		"double INF",
	}, func(a, b api.Atom) bool { return a.Kind == api.AtomDouble || b.Kind == api.AtomDouble })
}

// P8.3: NaN is not equal to anything, nor less or greater; exact numbers are compared as such.
func TestCompareNaN(t *testing.T) {
	for _, kind := range []string{"integer", "decimal", "double"} {
		for _, s := range canonical[kind] {
			checkOrder(t, kind+" "+s, "double NaN", 2)
		}
	}
}

// families returns the kinds whose values can be compared with each other.
func families() [][]string {
	return [][]string{{"untyped", "string"}, {"bool"}, {"integer", "decimal", "double"}, {"date"}, {"time"}, {"moment"}, {"months"}, {"seconds"}}
}

// P8.3: all other values cannot be compared.
func TestCompareKinds(t *testing.T) {
	for _, a := range values() {
		for _, b := range values() {
			want := api.ErrType
			for _, family := range families() {
				if slices.Contains(family, names()[a.Kind]) && slices.Contains(family, names()[b.Kind]) {
					want = api.OK
				}
			}
			for op := range comparisons() {
				if got, e := atom.Compare(op, a, b); e != want || e != api.OK && got {
					t.Fatalf("%v %s %v: %t, %d", a, op, b, got, e)
				}
			}
		}
	}
}

// P8.3: values that are not valid, and ops that do not exist.
func TestCompareArguments(t *testing.T) {
	for _, a := range notValid() {
		for _, b := range []api.Atom{a, v("string a"), v("integer 1"), v("double NaN"), v("date 2026-11-16"), v("months P1M"), {Kind: a.Kind, Text: "\xff"}} {
			for op := range comparisons() {
				got, e := atom.Compare(op, a, b)
				back, f := atom.Compare(op, b, a)
				if got || back || e != api.ErrArg || f != api.ErrArg {
					t.Errorf("%d %.80q %s %v: %t, %d, %t, %d", a.Kind, a.Text, op, b, got, e, back, f)
				}
			}
		}
	}
	for _, op := range []string{"", "=", "!=", "<", "<=", ">", ">=", "EQ", "Eq", " eq", "eq ", "eqne", "+", "-", "div", "is", "\xff", "less"} {
		for _, b := range values() {
			for _, a := range []api.Atom{b, v("integer 1"), v("string a"), v("integer 01")} {
				if got, e := atom.Compare(op, a, b); got || e != api.ErrArg {
					t.Errorf("%v %q %v: %t, %d", a, op, b, got, e)
				}
			}
		}
	}
}

// R5: equal calls return equal results, in several goroutines too.
func TestGoroutines(t *testing.T) {
	var group sync.WaitGroup
	for range 8 {
		group.Go(func() {
			for range 200 {
				checkCast(t, "string  007 ", "integer", "7")
				checkNoCast(t, "integer", "double INF", "string 1.5")
				checkOrder(t, "integer 1", "decimal 1", 0)
				checkArith(t, "date 2026-01-31", "+", "months P1M", "date 2026-02-28")
				checkArith(t, "integer 7", "idiv", "double -2", "integer -3")
				checkSame(t, "decimal 0.1", "double 0.1", false)
			}
		})
	}
	group.Wait()
}
