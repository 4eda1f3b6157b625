package dbl_test

import (
	"math"
	"strings"
	"sync"
	"testing"

	"chisel/api"
	"chisel/dbl"
)

// zeros returns n digits 0.
func zeros(n int) string { return strings.Repeat("0", n) }

// nines returns n digits 9.
func nines(n int) string { return strings.Repeat("9", n) }

// double returns the double with a sign, an exponent and a mantissa, as its bits have them.
func double(below bool, exponent, mantissa uint64) float64 {
	f := math.Float64frombits(exponent<<52 | mantissa)
	if below {
		return -f
	}
	return f
}

// The doubles at the limits, as functions return them: no constant is -0 or INF.
func minusZero() float64 { return math.Copysign(0, -1) }
func inf() float64       { return math.Inf(1) }
func minusInf() float64  { return math.Inf(-1) }

// normal is the least double above 0 whose mantissa has all of its digits.
const normal = 0x1p-1022

// same reports whether two doubles are the same: all NaN are alike, and 0 and -0 are not.
func same(a, b float64) bool {
	return math.Float64bits(a) == math.Float64bits(b) || math.IsNaN(a) && math.IsNaN(b)
}

// ways returns the names of the ways to round, in the order of the document's examples.
func ways() []string { return []string{"half", "even", "floor", "ceiling", "cut"} }

// spaces returns white space.
func spaces() []string {
	return []string{"", " ", "\t", "\n", "\r", "\r\n", " \t\r\n ", strings.Repeat(" ", 1000)}
}

// parse is a text, and the double that it is.
type parse struct {
	s    string
	want float64
}

// checkParse checks what Parse returns for texts that are numbers.
func checkParse(t *testing.T, l []parse) {
	t.Helper()
	for _, x := range l {
		if got, ok := dbl.Parse(x.s); !ok || !same(got, x.want) {
			t.Errorf("Parse of %d bytes %.60q: %g, %t, not %g", len(x.s), x.s, got, ok, x.want)
		}
	}
}

// text is a double, and its canonical text.
type text struct {
	f    float64
	want string
}

// checkText checks what Text returns, also for the opposite of each double above 0, and that Parse reads it.
func checkText(t *testing.T, l []text) {
	t.Helper()
	for _, x := range l {
		if got := dbl.Text(x.f); got != x.want {
			t.Errorf("Text of %b: %s, not %s", x.f, got, x.want)
		}
		if got := dbl.Text(-x.f); x.f > 0 && got != "-"+x.want {
			t.Errorf("Text of %b: %s, not -%s", -x.f, got, x.want)
		}
		checkParse(t, []parse{{x.want, x.f}})
	}
}

// operation is two doubles, and what an operation leads to.
type operation struct{ a, b, want float64 }

// checkOp checks what Op returns.
func checkOp(t *testing.T, op string, l []operation) {
	t.Helper()
	for _, x := range l {
		if got, ok := dbl.Op(op, x.a, x.b); !ok || !same(got, x.want) {
			t.Errorf("%b %s %b: %b, %t, not %b", x.a, op, x.b, got, ok, x.want)
		}
	}
}

// roundings is a double, and what it is rounded to in each way.
type roundings struct {
	f      float64
	digits int
	want   [5]float64
}

// checkRoundings checks what Round returns.
func checkRoundings(t *testing.T, l []roundings) {
	t.Helper()
	for _, x := range l {
		for i, how := range ways() {
			if got, e := dbl.Round(x.f, x.digits, how); !same(got, x.want[i]) || e != api.OK {
				t.Errorf("Round of %g to %d, %s: %g, %d, not %g", x.f, x.digits, how, got, e, x.want[i])
			}
		}
	}
}

// The examples of the chapter.
func TestExamples(t *testing.T) {
	checkParse(t, []parse{{"1e3", 1000}, {" .5 ", 0.5}, {"+1", 1}, {"-0", minusZero()}, {"5.", 5}, {"1E400", inf()}, {"1e-400", 0}, {"-INF", minusInf()}})
	for _, s := range []string{"+INF", "1e", ".", "0x1", "1_0", "inf", ""} {
		if got, ok := dbl.Parse(s); got != 0 || ok {
			t.Errorf("Parse of %q: %g, %t", s, got, ok)
		}
	}
	tenth, fifth := 0.1, 0.2
	checkText(t, []text{{1000000, "1.0E6"}, {999999.5, "999999.5"}, {0.000001, "0.000001"}, {0.0000005, "5.0E-7"}, {-1.5e300, "-1.5E300"}, {5e-324, "5.0E-324"}, {tenth + fifth, "0.30000000000000004"}, {1 << 53, "9.007199254740992E15"}})
	for _, x := range []struct {
		f    float64
		want string
		e    api.Errno
	}{{0.1, "0.10000000000000000555", api.OK}, {1e30, "", api.ErrPlus}, {1e-21, "0", api.OK}, {math.NaN(), "", api.ErrCast}} {
		if got, e := dbl.ToNum(x.f); got != x.want || e != x.e {
			t.Errorf("ToNum of %g: %q, %d", x.f, got, e)
		}
	}
	checkOp(t, "mod", []operation{{-5.5, 2, -1.5}, {5, inf(), 5}, {5, 0, math.NaN()}})
	if got, ok := dbl.Op("idiv", 5, 2); got != 0 || ok {
		t.Error("idiv:", got, ok)
	}
	for _, x := range []struct {
		f      float64
		digits int
		how    string
		want   float64
	}{{2.5, 0, "half", 3}, {-2.5, 0, "half", -2}, {-0.4, 0, "half", minusZero()}, {0.125, 2, "even", 0.12}, {1250, -2, "even", 1200}} {
		if got, e := dbl.Round(x.f, x.digits, x.how); !same(got, x.want) || e != api.OK {
			t.Errorf("Round of %g to %d, %s: %g, %d", x.f, x.digits, x.how, got, e)
		}
	}
}

// P5.1: texts that are numbers.
func TestParse(t *testing.T) {
	checkParse(t, []parse{
		{"0", 0}, {"+0", 0}, {"-0", minusZero()}, {"00", 0}, {"0.0", 0}, {"-.0", minusZero()}, {"0.", 0}, {"-0.", minusZero()}, {"+.0", 0}, {"0e0", 0}, {"-0e5", minusZero()}, {"0E-5", 0}, {"0e999999999999999999999", 0}, {"-0e999999999999999999999", minusZero()}, {"0.000e-99999999999999999999", 0},
		{"1", 1}, {"+1", 1}, {"-1", -1}, {"007", 7}, {"1.0", 1}, {"1.", 1}, {"-1.", -1}, {".5", 0.5}, {"+.5", 0.5}, {"-.5", -0.5}, {"00.50", 0.5}, {"123.456", 123.456}, {"-1234567890.0987654321", -1234567890.0987654321}, {"100", 100},
		{"1e3", 1000}, {"1E3", 1000}, {"1e+3", 1000}, {"1e-3", 0.001}, {"1e03", 1000}, {"1e-003", 0.001}, {"1e+0", 1}, {"1e-0", 1}, {"1.e2", 100}, {".5e1", 5}, {"+1.5E+2", 150}, {"-1.5E-2", -0.015}, {"12e-2", 0.12}, {"0.00012e4", 1.2}, {"000e1", 0}, {"1" + zeros(400) + "e-400", 1}, {"." + zeros(400) + "1e401", 1}, {"0." + zeros(399) + "15e400", 1.5}, {"1e" + zeros(1000) + "5", 100000}, {"1e-" + zeros(1000) + "5", 0.00001},
		{"NaN", math.NaN()}, {"INF", inf()}, {"-INF", minusInf()},
	})
}

// notNumbers returns strings that Parse does not read.
func notNumbers() []string {
	return []string{
		"", "+", "-", ".", "+.", "-.", "e", "E", "e1", ".e1", "+e1", "-.e1", "1e", "1E", "1e+", "1e-", "1.e", ".5E-", "1e+-1", "1e--1", "1e1.5", "1e1e1", "1eE1", "1e.5", "1e5.", "--1", "++1", "+-1", "1-", "1+", "1+1", "1.2.3", "1..2", "..1", ".1.", ".-1", "1.-1", "1,5", "1_0", "0x1", "0x1p4", "0b1", "1p4", "1f", "1d", "1.5a", "a1", "1/2", "1/", "1:", "$1", "1e/", "1e:", "1e1:",
		"1 2", "1 e3", "1e 3", "1e+ 3", "- 1", "+\n1", "1 .5", "1. 5", "1\t2", "NaN NaN", "I NF", "- INF",
		"nan", "NAN", "-NaN", "+NaN", "NaN1", "1NaN", "Na", "NaNs", "inf", "Inf", "-inf", "+INF", "--INF", "INF1", "INFINITY", "Infinity", "-Infinity", "infinity", "IN", "INFe1", "INF.",
		"\u0661", "1\uff11", "\u22121", "1\u00a0", "\u20031", "\ufeff1", "1\x00", "\x001", "\v1", "1\f", "1\xff", "\xff", "\u221e",
		strings.Repeat("1", 1000) + "x", strings.Repeat("-", 1<<20), strings.Repeat("1.", 1<<19), strings.Repeat("e1", 1<<19), "1e" + strings.Repeat("9", 1<<20) + "x", strings.Repeat(" ", 1<<20), "1" + strings.Repeat(" ", 1<<20) + "1",
	}
}

// P5.1: strings that are no numbers, with white space around them or none.
func TestParseNone(t *testing.T) {
	for _, s := range notNumbers() {
		for _, space := range []string{"", " ", "\r\n\t"} {
			if got, ok := dbl.Parse(space + s + space); !same(got, 0) || ok {
				t.Errorf("Parse of %d bytes %.60q: %g, %t", len(s), s, got, ok)
			}
		}
	}
}

// P5.1: the double is the nearest one, and of two equally near ones the one with an even last digit.
func TestParseNearest(t *testing.T) {
	for _, x := range []struct {
		low, high float64
		highEven  bool
	}{
		{0, 5e-324, false}, {5e-324, 1e-323, true}, {double(false, 0, 1<<52-1), normal, true}, {normal, double(false, 1, 1), false}, {double(false, 0x3fe, 1<<52-1), 1, true}, {1, double(false, 0x3ff, 1), false}, {double(false, 0x3ff, 1), double(false, 0x3ff, 2), true}, {1 << 53, 1<<53 + 2, false}, {1<<53 + 2, 1<<53 + 4, true}, {1e22, math.Nextafter(1e22, inf()), false},
		{math.MaxFloat64, inf(), true},
	} {
		middle := middleOf(x.low, x.high)
		even := x.low
		if x.highEven {
			even = x.high
		}
		higher, lower := middle+zeros(1000)+"1", middle[:len(middle)-1]+"4"+nines(1000)
		if !strings.Contains(middle, ".") {
			// A whole number, whose last digit is not 0.
			higher, lower = middle+"."+zeros(1000)+"1", middle[:len(middle)-1]+string(rune(middle[len(middle)-1]-1))+"."+nines(1000)
		}
		checkParse(t, []parse{{middle, even}, {"-" + middle, -even}, {lower, x.low}, {"-" + lower, -x.low}, {higher, x.high}, {"-" + higher, -x.high}, {middle + "e-5000", 0}, {middle + "e5000", inf()}, {"-" + middle + "e5000", minusInf()}})
		if strings.Contains(middle, ".") {
			checkParse(t, []parse{{middle + zeros(5000), even}, {middle + zeros(5000) + "1", x.high}})
		}
	}
	checkParse(t, []parse{{"0.1", 0.1}, {"0.30000000000000004", 0.30000000000000004}, {"9007199254740993", 1 << 53}, {"9007199254740993e-3", 9007199254740.993}, {"1e23", 1e23}, {"1.7976931348623157e308", math.MaxFloat64}, {"1.7976931348623158e308", math.MaxFloat64}, {"1.7976931348623159e308", inf()}, {"-1.7976931348623159e308", minusInf()}, {"2.4703282292062327e-324", 0}, {"2.4703282292062328e-324", 5e-324}, {"-2.4703282292062328e-324", -5e-324}, {"2.2250738585072014e-308", normal}, {"2.2250738585072011e-308", double(false, 0, 1<<52-1)}})
}

// P5.1: numbers that are far away from the doubles, and those whose exponents only seem to be so.
func TestParseFar(t *testing.T) {
	checkParse(t, []parse{
		{"1e309", inf()}, {"-1e309", minusInf()}, {"1e400", inf()}, {"1e401", inf()}, {"1e9999", inf()}, {"1e10000", inf()}, {"1e100000", inf()}, {"1e2147483648", inf()}, {"1e4294967296", inf()}, {"1e9223372036854775807", inf()}, {"1e9223372036854775808", inf()}, {"1e18446744073709551616", inf()}, {"-1e" + nines(5000), minusInf()}, {"0.1e+" + nines(5000), inf()}, {nines(5000), inf()}, {"-" + nines(400), minusInf()},
		{"1e-325", 0}, {"1e-401", 0}, {"1e-10000", 0}, {"1e-100000", 0}, {"1e-2147483649", 0}, {"1e-4294967296", 0}, {"1e-9223372036854775808", 0}, {"1e-9223372036854775809", 0}, {"1e-18446744073709551616", 0}, {"1e-" + nines(5000), 0}, {nines(50) + "E-" + nines(5000), 0}, {"." + zeros(5000) + "1", 0},
		// What stands for 0 stands for -0 with a minus sign.
		{"-1e-325", minusZero()}, {"-1e-" + nines(5000), minusZero()}, {"-." + zeros(5000) + "1", minusZero()}, {"-0e" + nines(5000), minusZero()},
		{"1" + zeros(200000) + "e-200000", 1}, {"-15" + zeros(99999) + "E-100000", -1.5}, {"0." + zeros(200000) + "1e200001", 1}, {"." + zeros(100000) + "25e+100000", 0.25}, {zeros(200000) + "1e5", 100000}, {zeros(200000) + "." + zeros(10) + "1e11", 1}, {"1" + zeros(1<<20) + "e-1048576", 1}, {"0." + zeros(1<<20) + "5e1048577", 5}, {"1" + zeros(200000) + "e-199000", inf()}, {"0." + zeros(200000) + "1e199000", 0}, {"1" + zeros(400) + "e-100", 1e300}, {"1." + zeros(100000) + "1", 1}, {nines(100000) + "e-100000", 1},
	})
}

// P5.2: canonical texts.
func TestText(t *testing.T) {
	checkText(t, []text{
		{0, "0"}, {minusZero(), "-0"}, {math.NaN(), "NaN"}, {inf(), "INF"}, {minusInf(), "-INF"},
		{1, "1"}, {10, "10"}, {12, "12"}, {100, "100"}, {100000, "100000"}, {123456, "123456"}, {999999, "999999"}, {0.5, "0.5"}, {0.1, "0.1"}, {1.5, "1.5"}, {10.01, "10.01"}, {0.05, "0.05"}, {123.456, "123.456"}, {100.5, "100.5"}, {0.001, "0.001"}, {0.000123, "0.000123"}, {0.00001, "0.00001"}, {1.0 / 3, "0.3333333333333333"}, {2.0 / 3, "0.6666666666666666"},
		{1000000, "1.0E6"}, {1000001, "1.000001E6"}, {math.Nextafter(1000000, 0), "999999.9999999999"}, {math.Nextafter(1000000, inf()), "1.0000000000000001E6"}, {999999.5, "999999.5"}, {1234567.5, "1.2345675E6"}, {10000000, "1.0E7"}, {1200000, "1.2E6"},
		{0.000001, "0.000001"}, {math.Nextafter(0.000001, 0), "9.999999999999997E-7"}, {math.Nextafter(0.000001, 1), "0.0000010000000000000002"}, {0.0000011, "0.0000011"}, {0.0000009, "9.0E-7"}, {0.00000012, "1.2E-7"},
		{1e9, "1.0E9"}, {1e10, "1.0E10"}, {1e20, "1.0E20"}, {1e21, "1.0E21"}, {1e23, "1.0E23"}, {1e100, "1.0E100"}, {1.5e100, "1.5E100"}, {1e-9, "1.0E-9"}, {1e-10, "1.0E-10"}, {1e-100, "1.0E-100"}, {1.25e-100, "1.25E-100"}, {1e300, "1.0E300"}, {1e-300, "1.0E-300"},
		{math.MaxFloat64, "1.7976931348623157E308"}, {5e-324, "5.0E-324"}, {1e-323, "1.0E-323"}, {1.5e-323, "1.5E-323"}, {normal, "2.2250738585072014E-308"}, {double(false, 0, 1<<52-1), "2.225073858507201E-308"}, {1 << 53, "9.007199254740992E15"}, {1<<53 + 2, "9.007199254740994E15"}, {1 << 62, "4.611686018427388E18"}, {0x1p64, "1.8446744073709552E19"}, {0x1.999999999999bp-4, "0.10000000000000002"},
		// The nearer number of 16 digits, which ends with 1, has another double.
		{0x1p-44, "5.684341886080802E-14"},
		// Two numbers of 17 digits are equally near.
		{0x1p50 + 0.25, "1.1258999068426242E15"}, {0x1p50 + 0.75, "1.1258999068426248E15"},
	})
}

// P5.3: the doubles of decimal numbers.
func TestFromNum(t *testing.T) {
	for _, x := range []parse{
		{"0", 0}, {"1", 1}, {"-1", -1}, {"0.1", 0.1}, {"-0.5", -0.5}, {"123.456", 123.456}, {"0.00000000000000000001", 1e-20}, {"-0.00000000000000000001", -1e-20}, {"9007199254740993", 1 << 53}, {"9007199254740993.00000000000000000001", 1<<53 + 2}, {"-9007199254740993", -1 << 53}, {"9007199254740995", 1<<53 + 4}, {"1" + zeros(29), 1e29}, {nines(30), 1e30}, {nines(30) + "." + nines(20), 1e30}, {"-" + nines(30) + "." + nines(20), -1e30}, {"0." + nines(20), 1}, {"1.00000000000000011102", 1}, {"1.00000000000000011103", 1 + 0x1p-52},
	} {
		if got, e := dbl.FromNum(x.s); !same(got, x.want) || e != api.OK {
			t.Errorf("FromNum of %s: %g, %d, not %g", x.s, got, e, x.want)
		}
	}
	for _, s := range append(notNumbers(), "NaN", "INF", "-INF", "-0", "+1", "01", "1.0", "1.", ".5", "-.5", "1e3", "1E0", " 1", "1 ", "0.0", "00", "1.50", "1"+zeros(30), "0."+zeros(20)+"1", "-0.0") {
		if got, e := dbl.FromNum(s); !same(got, 0) || e != api.ErrArg {
			t.Errorf("FromNum of %.60q: %g, %d", s, got, e)
		}
	}
}

// P5.3: the decimal numbers of doubles, and the errors.
func TestToNum(t *testing.T) {
	for _, x := range []struct {
		f    float64
		want string
	}{
		{0, "0"}, {1, "1"}, {10, "10"}, {0.5, "0.5"}, {1.25, "1.25"}, {0.1, "0.10000000000000000555"}, {0.3, "0.29999999999999998890"[:21]}, {100000, "100000"}, {1e20, "1" + zeros(20)}, {1e22, "1" + zeros(22)}, {1e23, "99999999999999991611392"}, {1 << 53, "9007199254740992"}, {math.Nextafter(1e30, 0), "999999999999999879147136483328"}, {123456.75, "123456.75"},
		// Numbers between two multiples of 10^-20.
		{0x1p-20, "0.00000095367431640625"}, {0x1p-21, "0.00000047683715820312"}, {3 * 0x1p-21, "0.00000143051147460938"}, {5 * 0x1p-21, "0.00000238418579101562"}, {1 + 0x1p-21, "1.00000047683715820312"}, {0x1p-22, "0.00000023841857910156"}, {9.9e-21, "0.00000000000000000001"}, {1e-20, "0.00000000000000000001"}, {1.4e-20, "0.00000000000000000001"}, {1.6e-20, "0.00000000000000000002"}, {5.1e-21, "0.00000000000000000001"}, {4.9e-21, "0"}, {1e-300, "0"}, {5e-324, "0"}, {normal, "0"}, {math.Nextafter(1, 0), "0.99999999999999988898"}, {math.Nextafter(10, 0), "9.99999999999999822364"},
	} {
		if got, e := dbl.ToNum(x.f); got != x.want || e != api.OK {
			t.Errorf("ToNum of %g: %q, %d, not %q", x.f, got, e, x.want)
		}
		opposite := "-" + x.want
		if x.want == "0" {
			opposite = "0"
		}
		if got, e := dbl.ToNum(-x.f); got != opposite || e != api.OK {
			t.Errorf("ToNum of %g: %q, %d, not %q", -x.f, got, e, opposite)
		}
	}
	if got, e := dbl.ToNum(minusZero()); got != "0" || e != api.OK {
		t.Errorf("ToNum of -0: %q, %d", got, e)
	}
	for e, l := range map[api.Errno][]float64{
		api.ErrCast: {math.NaN(), -math.NaN(), inf(), minusInf()},
		api.ErrPlus: {1e30, -1e30, math.Nextafter(1e30, inf()), 1e31, 1e100, -1e177, 1e178, 1e179, 1e180, 1e199, 1e200, -1e201, 1e300, math.MaxFloat64, -math.MaxFloat64},
	} {
		for _, f := range l {
			if got, g := dbl.ToNum(f); got != "" || g != e {
				t.Errorf("ToNum of %g: %q, %d", f, got, g)
			}
		}
	}
}

// P5.4: what IEEE 754 says.
func TestOp(t *testing.T) {
	nan, zero := math.NaN(), minusZero()
	checkOp(t, "+", []operation{
		{1, 2, 3}, {0.1, 0.2, 0.30000000000000004}, {1, -1, 0}, {-1, 1, 0}, {0, 0, 0}, {zero, zero, zero}, {0, zero, 0}, {zero, 0, 0}, {zero, 1, 1}, {1, 0x1p-53, 1}, {1 + 0x1p-52, 0x1p-53, 1 + 0x1p-51}, {math.MaxFloat64, 0x1p970, inf()}, {math.MaxFloat64, 0x1p969, math.MaxFloat64}, {-math.MaxFloat64, -math.MaxFloat64, minusInf()}, {5e-324, 5e-324, 1e-323}, {5e-324, -5e-324, 0},
		{inf(), 1, inf()}, {inf(), inf(), inf()}, {inf(), minusInf(), nan}, {minusInf(), inf(), nan}, {minusInf(), -1, minusInf()}, {nan, 1, nan}, {1, nan, nan}, {nan, inf(), nan}, {inf(), -math.MaxFloat64, inf()},
	})
	checkOp(t, "-", []operation{
		{1, 2, -1}, {3, 2, 1}, {1, 1, 0}, {0, 0, 0}, {zero, 0, zero}, {zero, zero, 0}, {0, zero, 0}, {0, 1, -1}, {1, 0x1p-54, 1}, {1, 0x1.8p-54, 1 - 0x1p-53}, {-math.MaxFloat64, math.MaxFloat64, minusInf()}, {normal, 5e-324, double(false, 0, 1<<52-1)},
		{inf(), inf(), nan}, {minusInf(), minusInf(), nan}, {inf(), minusInf(), inf()}, {1, inf(), minusInf()}, {nan, 0, nan}, {0, nan, nan},
	})
	checkOp(t, "*", []operation{
		{2, 3, 6}, {-2, 3, -6}, {-2, -3, 6}, {0, 5, 0}, {0, -5, zero}, {zero, -5, 0}, {zero, 0, zero}, {0.1, 0.1, 0.010000000000000002}, {5e-324, 0.5, 0}, {-5e-324, 0.5, zero}, {5e-324, 1.5, 1e-323}, {1e-200, -1e-200, zero}, {1e200, 1e200, inf()}, {1e200, -1e200, minusInf()}, {math.MaxFloat64, 1 + 0x1p-52, inf()},
		{inf(), 2, inf()}, {inf(), -2, minusInf()}, {minusInf(), minusInf(), inf()}, {inf(), 0, nan}, {zero, inf(), nan}, {nan, 0, nan}, {1, nan, nan},
	})
	checkOp(t, "div", []operation{
		{6, 3, 2}, {1, 3, 0.3333333333333333}, {-2, 3, -0.6666666666666666}, {1, 10, 0.1}, {0, 5, 0}, {0, -5, zero}, {zero, 5, zero}, {5e-324, 2, 0}, {-5e-324, 2, zero}, {1.5e-323, 2, 1e-323}, {math.MaxFloat64, 0.5, inf()}, {1e-300, 1e300, 0},
		{1, 0, inf()}, {-1, 0, minusInf()}, {1, zero, minusInf()}, {-1, zero, inf()}, {0, 0, nan}, {zero, 0, nan}, {1, inf(), 0}, {-1, inf(), zero}, {1, minusInf(), zero}, {inf(), inf(), nan}, {inf(), 2, inf()}, {inf(), 0, inf()}, {minusInf(), 0, minusInf()}, {0, inf(), 0}, {nan, 1, nan}, {1, nan, nan}, {nan, 0, nan},
	})
}

// P5.4: remainders, which are exact.
func TestMod(t *testing.T) {
	nan, zero := math.NaN(), minusZero()
	checkOp(t, "mod", []operation{
		{5, 3, 2}, {-5, 3, -2}, {5, -3, 2}, {-5, -3, -2}, {6, 3, 0}, {-6, 3, zero}, {6, -3, 0}, {-6, -3, zero}, {1, 3, 1}, {-1, 3, -1}, {3, 3, 0}, {-3, 3, zero}, {5.5, 2, 1.5}, {-5.5, 2, -1.5}, {1, 0.1, 0.09999999999999995}, {0.3, 0.1, 0.09999999999999998}, {0.5, 7, 0.5},
		{0, 3, 0}, {zero, 3, zero}, {0, -3, 0}, {zero, -3, zero}, {0, 5e-324, 0}, {zero, inf(), zero}, {0, minusInf(), 0},
		{1e300, 7, 1}, {-1e300, 7, -1}, {1e17, 3, 1}, {math.MaxFloat64, 5e-324, 0}, {-math.MaxFloat64, 5e-324, zero}, {math.MaxFloat64, 1.5e-323, 1e-323}, {math.MaxFloat64, math.MaxFloat64, 0}, {math.Nextafter(math.MaxFloat64, 0), math.MaxFloat64, math.Nextafter(math.MaxFloat64, 0)}, {normal, 5e-324, 0}, {normal, double(false, 0, 1<<52-1), 5e-324}, {1e-323, 1.5e-323, 1e-323}, {5e-324, math.MaxFloat64, 5e-324}, {1, double(false, 0x3fe, 1<<52-1), 0x1p-53},
		{5, inf(), 5}, {-5, inf(), -5}, {5, minusInf(), 5}, {math.MaxFloat64, inf(), math.MaxFloat64}, {5e-324, minusInf(), 5e-324},
		{5, 0, nan}, {5, zero, nan}, {0, 0, nan}, {inf(), 2, nan}, {minusInf(), 2, nan}, {inf(), inf(), nan}, {inf(), 0, nan}, {nan, 2, nan}, {2, nan, nan}, {nan, nan, nan}, {nan, inf(), nan}, {inf(), nan, nan}, {nan, 0, nan}, {0, nan, nan},
	})
}

// P5.4: names of other operations, or of none.
func TestNoOp(t *testing.T) {
	for _, op := range []string{"", "idiv", "/", "%", "MOD", "Div", "add", "++", "+ ", " +", "\u00d7", "\u2212", "mod\x00", "\xff", "**", "-+", strings.Repeat("mod", 1000)} {
		for _, x := range []float64{1, 0, math.NaN(), inf()} {
			if got, ok := dbl.Op(op, x, 2); !same(got, 0) || ok {
				t.Errorf("%g %.20q 2: %g, %t", x, op, got, ok)
			}
		}
	}
}

// P5.5: doubles to so many digits, in each way.
func TestRound(t *testing.T) {
	zero, big := minusZero(), 1e30
	checkRoundings(t, []roundings{
		{2.5, 0, [5]float64{3, 2, 2, 3, 2}}, {-2.5, 0, [5]float64{-2, -2, -3, -2, -2}}, {3.5, 0, [5]float64{4, 4, 3, 4, 3}}, {-3.5, 0, [5]float64{-3, -4, -4, -3, -3}}, {0.5, 0, [5]float64{1, 0, 0, 1, 0}}, {-0.5, 0, [5]float64{zero, zero, -1, zero, zero}}, {-1.5, 0, [5]float64{-1, -2, -2, -1, -1}}, {0.4, 0, [5]float64{0, 0, 0, 1, 0}}, {-0.4, 0, [5]float64{zero, zero, -1, zero, zero}}, {0.6, 0, [5]float64{1, 1, 0, 1, 0}}, {-0.6, 0, [5]float64{-1, -1, -1, zero, zero}}, {9.5, 0, [5]float64{10, 10, 9, 10, 9}}, {99.75, 0, [5]float64{100, 100, 99, 100, 99}},
		{0.125, 2, [5]float64{0.13, 0.12, 0.12, 0.13, 0.12}}, {0.375, 2, [5]float64{0.38, 0.38, 0.37, 0.38, 0.37}}, {-0.375, 2, [5]float64{-0.37, -0.38, -0.38, -0.37, -0.37}}, {123.456, 1, [5]float64{123.5, 123.5, 123.4, 123.5, 123.4}}, {0.999, 2, [5]float64{1, 1, 0.99, 1, 0.99}}, {1e-10, 9, [5]float64{0, 0, 0, 1e-9, 0}},
		// The doubles nearest to these numbers are less or greater than they are written here.
		{1.005, 2, [5]float64{1, 1, 1, 1.01, 1}}, {0.15, 1, [5]float64{0.1, 0.1, 0.1, 0.2, 0.1}}, {0.35, 1, [5]float64{0.3, 0.3, 0.3, 0.4, 0.3}}, {0.45, 1, [5]float64{0.5, 0.5, 0.4, 0.5, 0.4}}, {2.675, 2, [5]float64{2.67, 2.67, 2.67, 2.68, 2.67}}, {0.1, 1, [5]float64{0.1, 0.1, 0.1, 0.2, 0.1}}, {0.3, 1, [5]float64{0.3, 0.3, 0.2, 0.3, 0.2}}, {math.Nextafter(0.5, 0), 0, [5]float64{0, 0, 0, 1, 0}}, {math.Nextafter(2.5, 3), 0, [5]float64{3, 3, 2, 3, 2}}, {math.Nextafter(-2.5, 0), 0, [5]float64{-2, -2, -3, -2, -2}},
		{1250, -2, [5]float64{1300, 1200, 1200, 1300, 1200}}, {-1250, -2, [5]float64{-1200, -1200, -1300, -1200, -1200}}, {1350, -2, [5]float64{1400, 1400, 1300, 1400, 1300}}, {1250.5, -2, [5]float64{1300, 1300, 1200, 1300, 1200}}, {49, -2, [5]float64{0, 0, 0, 100, 0}}, {-49, -2, [5]float64{zero, zero, -100, zero, zero}}, {5, -1, [5]float64{10, 0, 0, 10, 0}}, {15, -1, [5]float64{20, 20, 10, 20, 10}}, {995, -1, [5]float64{1000, 1000, 990, 1000, 990}}, {5, -2, [5]float64{0, 0, 0, 100, 0}}, {50, -2, [5]float64{100, 0, 0, 100, 0}}, {95, -2, [5]float64{100, 100, 0, 100, 0}}, {99, -3, [5]float64{0, 0, 0, 1000, 0}},
		{1, -30, [5]float64{0, 0, 0, big, 0}}, {-1, -30, [5]float64{zero, zero, -big, zero, zero}}, {4e29, -30, [5]float64{0, 0, 0, big, 0}}, {6e29, -30, [5]float64{big, big, 0, big, 0}}, {-6e29, -30, [5]float64{-big, -big, -big, zero, zero}}, {1.6e30, -30, [5]float64{2 * big, 2 * big, big, 2 * big, big}}, {5e-324, -30, [5]float64{0, 0, 0, big, 0}}, {5e-324, 20, [5]float64{0, 0, 0, 1e-20, 0}}, {-5e-324, 20, [5]float64{zero, zero, -1e-20, zero, zero}}, {-normal, 0, [5]float64{zero, zero, -1, zero, zero}}, {1e-20, 19, [5]float64{0, 0, 0, 1e-19, 0}}, {0x1p-21, 20, [5]float64{0.00000047683715820313, 0.00000047683715820312, 0.00000047683715820312, 0.00000047683715820313, 0.00000047683715820312}},
	})
	for _, f := range []float64{math.MaxFloat64, 1e300, 1e60, 0x1p1023} {
		// The doubles are much farther from each other than 10^30.
		checkRoundings(t, []roundings{{f, -30, [5]float64{f, f, f, f, f}}, {-f, -30, [5]float64{-f, -f, -f, -f, -f}}, {f, 0, [5]float64{f, f, f, f, f}}})
	}
}

// P5.5: NaN, INF, -INF, 0 and -0 stay as they are.
func TestRoundStays(t *testing.T) {
	for _, f := range []float64{math.NaN(), inf(), minusInf(), 0, minusZero()} {
		for digits := -30; digits <= 20; digits++ {
			checkRoundings(t, []roundings{{f, digits, [5]float64{f, f, f, f, f}}})
		}
	}
}

// P5.5: the errors, and their order.
func TestRoundErrors(t *testing.T) {
	for _, x := range []struct {
		digits int
		how    string
		e      api.Errno
	}{
		{-31, "half", api.ErrRange}, {21, "half", api.ErrRange}, {-31, "x", api.ErrRange}, {21, "", api.ErrRange}, {math.MinInt, "even", api.ErrRange}, {math.MaxInt, "cut", api.ErrRange}, {1 << 32, "floor", api.ErrRange}, {-1 << 32, "ceiling", api.ErrRange}, {math.MinInt, "", api.ErrRange},
		{0, "", api.ErrArg}, {-30, "Half", api.ErrArg}, {20, "even ", api.ErrArg}, {0, "ceil", api.ErrArg}, {0, "up", api.ErrArg}, {0, " cut", api.ErrArg}, {0, "trunc", api.ErrArg}, {1, "\xff", api.ErrArg}, {2, strings.Repeat("half", 1000), api.ErrArg},
	} {
		for _, f := range []float64{2.5, -0.125, 0, minusZero(), math.NaN(), inf(), minusInf(), math.MaxFloat64} {
			if got, e := dbl.Round(f, x.digits, x.how); !same(got, 0) || e != x.e {
				t.Errorf("Round of %g to %d, %.20q: %g, %d", f, x.digits, x.how, got, e)
			}
		}
	}
}

// R5: equal calls return equal results, in several goroutines too.
func TestGoroutines(t *testing.T) {
	var group sync.WaitGroup
	for range 8 {
		group.Go(func() {
			for range 200 {
				if f, ok := dbl.Parse(" 1.5e2 "); f != 150 || !ok {
					t.Error(f, ok)
				}
				if s := dbl.Text(5e-324); s != "5.0E-324" {
					t.Error(s)
				}
				if f, e := dbl.Round(-2.5, 0, "even"); f != -2 || e != api.OK {
					t.Error(f, e)
				}
			}
		})
	}
	group.Wait()
}
