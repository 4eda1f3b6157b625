package num_test

import (
	"math"
	"strings"
	"sync"
	"testing"

	"chisel/api"
	"chisel/num"
)

// The greatest number, and the least one above 0.
const (
	greatest = "999999999999999999999999999999.99999999999999999999"
	least    = "0.00000000000000000001"
)

// zeros returns n digits 0.
func zeros(n int) string { return strings.Repeat("0", n) }

// nines returns n digits 9.
func nines(n int) string { return strings.Repeat("9", n) }

// binary is a function of two numbers.
type binary func(a, b string) (string, api.Errno)

// row is two numbers, and what a function returns for them.
type row struct {
	a, b, want string
	e          api.Errno
}

// checkRows checks what a function returns.
func checkRows(t *testing.T, name string, f binary, l []row) {
	t.Helper()
	for _, x := range l {
		if got, e := f(x.a, x.b); got != x.want || e != x.e {
			t.Errorf("%s of %s and %s: %q, %d, not %q, %d", name, x.a, x.b, got, e, x.want, x.e)
		}
	}
}

// ways returns the names of the ways to round, in the order of the chapter's examples.
func ways() []string { return []string{"half", "even", "floor", "ceiling", "cut"} }

// roundings is a number, and what it is rounded to in each way; "" if that is too large.
type roundings struct {
	a      string
	digits int
	want   [5]string
}

// checkRoundings checks what Round returns.
func checkRoundings(t *testing.T, l []roundings) {
	t.Helper()
	for _, x := range l {
		for i, how := range ways() {
			want := api.OK
			if x.want[i] == "" {
				want = api.ErrPlus
			}
			if got, e := num.Round(x.a, x.digits, how); got != x.want[i] || e != want {
				t.Errorf("Round of %s to %d, %s: %q, %d, not %q", x.a, x.digits, how, got, e, x.want[i])
			}
		}
	}
}

// checkParse checks what Parse returns for texts that it reads.
func checkParse(t *testing.T, l [][2]string) {
	t.Helper()
	for _, x := range l {
		if got, e := num.Parse(x[0]); got != x[1] || e != api.OK {
			t.Errorf("Parse of %s: %q, %d, not %q", x[0], got, e, x[1])
		}
	}
}

// notCanonical returns strings that are no canonical texts.
func notCanonical() []string {
	return []string{
		"", "-", "+", ".", "-.", "+1", "+0", "-0", "-0.0", "0.0", "00", "01", "-01", "00.5", "-00.5", "1.", "-1.", "0.", "-0.", ".5", "-.5", "+.5", "+0.5", "1.0", "1.50", "0.10", "-1.0", "--1", "-+1", "1-", "1.2.3", "1..2", "1,5", "1e3", "1E3", "1.5e0", "0x1", "1_000", " 1", "1 ", "\t1", "1\n", "- 1", "1 .5", "a", "1a", "a1", "1/", ":1", "Inf", "NaN", "1/2",
		"\u0661", "1\uff11", "\u22121", "1\xff", "\xff", "1\x00", "\x001", "-\u00e9",
		"1" + zeros(30), nines(31), "-" + nines(31), nines(31) + ".5", "0." + nines(21), "1." + zeros(20) + "1", "-0." + zeros(20) + "1", "0." + zeros(20), zeros(31), greatest + "9", strings.Repeat("1", 201), strings.Repeat("1", 1<<20), "1." + strings.Repeat("1", 1<<20), strings.Repeat("-", 1<<20), strings.Repeat("1.", 1<<19), "1" + strings.Repeat("\xff", 1000),
	}
}

// canonical returns strings that are canonical texts.
func canonical() []string {
	return []string{
		"0", "1", "-1", "9", "10", "-10", "42", "100", "0.5", "-0.5", "0.05", "0.1", "-0.1", "1.5", "-1.01", "10.01", "7.50001", "123.456", "-1234567890.0987654321",
		"999999999", "1000000000", "1000000001", "-999999999.999999999", "999999999999999999", "1000000000000000000", "0.000000001", "0.999999999", "18446744073709551615", "18446744073709551616", "-9223372036854775808", "4294967296",
		"1" + zeros(29), nines(30), "-" + nines(30), "0." + nines(20), "-0." + nines(20), least, "-" + least, greatest, "-" + greatest, "1" + zeros(29) + "." + zeros(19) + "1",
	}
}

// The examples of the chapter.
func TestExamples(t *testing.T) {
	checkParse(t, [][2]string{{"+007.50", "7.5"}, {".5", "0.5"}, {"5.", "5"}, {"-0.0", "0"}})
	for _, s := range []string{"1e3", "."} {
		if got, e := num.Parse(s); got != "" || e != api.ErrForm {
			t.Errorf("Parse of %s: %q, %d", s, got, e)
		}
	}
	checkRows(t, "Add", num.Add, []row{{"0.1", "0.2", "0.3", api.OK}})
	checkRows(t, "Mul", num.Mul, []row{{"-0.5", "0.25", "-0.125", api.OK}})
	checkRows(t, "Div", num.Div, []row{{"1", "3", "0.33333333333333333333", api.OK}, {"2", "3", "0.66666666666666666667", api.OK}, {"1", "0", "", api.ErrDiv}})
	checkRows(t, "IDiv", num.IDiv, []row{{"-7", "2", "-3", api.OK}, {"7.5", "-2", "-3", api.OK}})
	checkRows(t, "Mod", num.Mod, []row{{"-7", "2", "-1", api.OK}, {"7.5", "-2", "1.5", api.OK}})
	checkRoundings(t, []roundings{{"2.5", 0, [5]string{"3", "2", "2", "3", "2"}}, {"-2.5", 0, [5]string{"-2", "-2", "-3", "-2", "-2"}}, {"1250", -2, [5]string{"1300", "1200", "1200", "1300", "1200"}}})
}

// P4.1: texts that Parse reads.
func TestParse(t *testing.T) {
	checkParse(t, [][2]string{
		{"0", "0"}, {"+0", "0"}, {"-0", "0"}, {"00", "0"}, {"-00.00", "0"}, {".0", "0"}, {"-.0", "0"}, {"0.", "0"}, {"+0.", "0"}, {"-0.", "0"},
		{"1", "1"}, {"+1", "1"}, {"-1", "-1"}, {"1.", "1"}, {"-1.", "-1"}, {"1.0", "1"}, {"01", "1"}, {"-0010", "-10"}, {"100", "100"}, {"100.00", "100"}, {"010.010", "10.01"}, {"+.5", "0.5"}, {"-.5", "-0.5"}, {"-.50", "-0.5"}, {"-0.5", "-0.5"}, {".05", "0.05"}, {"1234567890.0987654321", "1234567890.0987654321"},
		{zeros(200), "0"}, {zeros(199) + "1", "1"}, {"-" + zeros(198) + "7", "-7"}, {"." + zeros(199), "0"}, {"1." + zeros(198), "1"}, {zeros(199) + ".", "0"}, {zeros(100) + "12.34" + zeros(90), "12.34"},
		{nines(30), nines(30)}, {"0" + nines(30) + ".0", nines(30)}, {"-" + nines(30), "-" + nines(30)}, {"1" + zeros(29), "1" + zeros(29)}, {greatest, greatest}, {"-000" + greatest + "000", "-" + greatest}, {least, least}, {"-." + zeros(19) + "1", "-" + least},
	})
}

// P4.1: digits after the twentieth are rounded "even".
func TestParseRounds(t *testing.T) {
	checkParse(t, [][2]string{
		{"0." + zeros(20) + "5", "0"}, {"0." + zeros(20) + "4" + nines(170), "0"}, {"0." + zeros(20) + "5" + zeros(150), "0"}, {"0." + zeros(20) + "5" + zeros(150) + "1", least}, {"0." + zeros(20) + "6", least}, {"0." + zeros(20) + "1", "0"}, {"-0." + zeros(20) + "5", "0"}, {"-0." + zeros(20) + "4", "0"}, {"-0." + zeros(20) + "51", "-" + least}, {"." + zeros(198) + "1", "0"}, {"-." + zeros(197) + "9", "0"},
		{"0." + zeros(19) + "15", "0." + zeros(19) + "2"}, {"0." + zeros(19) + "25", "0." + zeros(19) + "2"}, {"0." + zeros(19) + "35", "0." + zeros(19) + "4"}, {"-0." + zeros(19) + "15", "-0." + zeros(19) + "2"}, {"-0." + zeros(19) + "25", "-0." + zeros(19) + "2"}, {"1." + zeros(19) + "149", "1." + zeros(19) + "1"}, {"1." + zeros(19) + "151", "1." + zeros(19) + "2"}, {"1." + zeros(19) + "2500001", "1." + zeros(19) + "3"},
		{"0." + nines(21), "1"}, {"0." + nines(20) + "5", "1"}, {"0." + nines(20) + "4", "0." + nines(20)}, {"-9." + nines(30), "-10"}, {"99." + nines(19) + "85", "99." + nines(19) + "8"}, {"." + nines(199), "1"},
		{greatest + "4", greatest}, {greatest + "4" + nines(140), greatest}, {"-" + greatest + "49", "-" + greatest},
	})
}

// P4.1: the errors, and their order.
func TestParseErrors(t *testing.T) {
	for e, l := range map[api.Errno][]string{
		api.ErrForm: {
			"", "+", "-", ".", "+.", "-.", "--1", "++1", "+-1", "-+1", "1-", "1+", "1.2.3", "1..", "..1", ".1.", ".-1", "-.-1", "1e3", "1E3", "e", "1,5", "1_0", " 1", "1 ", "\n1", "1\n", "+ 1", "1. 5", "0x10", "a", "1a", "1.a", "1.5a", "Inf", "-Inf", "NaN", "1/2", "$", "/", ":", "1/", "1:", "\u0661", "1.\uff15", "\u22121", "1\xff", "\xff", "\x00", "1\x00",
			strings.Repeat("-", 200), nines(100) + "-" + nines(99), nines(199) + "x", strings.Repeat(".", 200), strings.Repeat("\u00e9", 100), zeros(99) + "." + zeros(99) + ".",
		},
		api.ErrLong: {zeros(201), "1" + zeros(200), "." + zeros(200), "+" + zeros(200), "1." + zeros(199), nines(201), strings.Repeat("x", 201), strings.Repeat("\u00e9", 101), strings.Repeat("\xff", 201), strings.Repeat("1", api.MaxText+1)},
		api.ErrPlus: {"1" + zeros(30), nines(31), "-" + nines(31), "+1" + zeros(30) + ".", "-001" + zeros(30) + ".5", nines(200), nines(199) + ".", "-" + nines(199), greatest + "5", "-" + greatest + "5", greatest + "9", "-" + greatest + "51"},
	} {
		for _, s := range l {
			if got, f := num.Parse(s); got != "" || f != e {
				t.Errorf("Parse of %d bytes %.50q: %q, %d, not %d", len(s), s, got, f, e)
			}
		}
	}
}

// P4.2: sums and differences, and those that are too large.
func TestAddAndSub(t *testing.T) {
	l := []row{
		{"0", "0", "0", api.OK}, {"1", "2", "3", api.OK}, {"1", "-1", "0", api.OK}, {"-1.5", "1.5", "0", api.OK}, {"-1", "-2", "-3", api.OK}, {"1", "-3", "-2", api.OK}, {"3", "-1", "2", api.OK}, {"-3", "1", "-2", api.OK}, {"0.9", "0.1", "1", api.OK}, {"0.05", "0.95", "1", api.OK}, {"-0.5", "0.25", "-0.25", api.OK}, {"0", "-7.5", "-7.5", api.OK}, {"10.01", "0.99", "11", api.OK},
		{"999999999", "1", "1000000000", api.OK}, {"1000000000", "-1", "999999999", api.OK}, {"0.999999999", "0.000000001", "1", api.OK}, {"0." + nines(20), least, "1", api.OK}, {"1", "-" + least, "0." + nines(20), api.OK}, {"1" + zeros(29), "-" + least, nines(29) + "." + nines(20), api.OK}, {nines(29) + "." + nines(20), least, "1" + zeros(29), api.OK}, {"4294967296", "-4294967295", "1", api.OK},
		{greatest, "-" + greatest, "0", api.OK}, {greatest, "0", greatest, api.OK}, {nines(30), "0." + nines(20), greatest, api.OK}, {"5" + zeros(29), "4" + nines(29), nines(30), api.OK}, {least, "-" + greatest, "-" + greatest[:len(greatest)-1] + "8", api.OK},
		{greatest, least, "", api.ErrPlus}, {"-" + greatest, "-" + least, "", api.ErrPlus}, {greatest, greatest, "", api.ErrPlus}, {nines(30), "1", "", api.ErrPlus}, {"5" + zeros(29), "5" + zeros(29), "", api.ErrPlus}, {"-5" + zeros(29), "-5" + zeros(29), "", api.ErrPlus},
	}
	checkRows(t, "Add", num.Add, l)
	for i, x := range l {
		l[i].b, _ = num.Neg(x.b)
	}
	checkRows(t, "Sub", num.Sub, l)
}

// P4.2: products, which are rounded, and those that are too large.
func TestMul(t *testing.T) {
	small := "0." + zeros(9) + "1"
	checkRows(t, "Mul", num.Mul, []row{
		{"0", "0", "0", api.OK}, {"0", "-5", "0", api.OK}, {"-0.1", "0", "0", api.OK}, {"2", "3", "6", api.OK}, {"-2", "3", "-6", api.OK}, {"2", "-3", "-6", api.OK}, {"-2", "-3", "6", api.OK}, {"0.5", "2", "1", api.OK}, {"1.5", "1.5", "2.25", api.OK}, {"100", "0.01", "1", api.OK}, {"999999999", "999999999", "999999998000000001", api.OK}, {"4294967296", "4294967296", "18446744073709551616", api.OK}, {"123456789.987654321", "1000000000", "123456789987654321", api.OK},
		{small, small, least, api.OK}, {small, "0." + zeros(10) + "5", "0", api.OK}, {small, "0." + zeros(9) + "15", "0." + zeros(19) + "2", api.OK}, {small, "0." + zeros(9) + "25", "0." + zeros(19) + "2", api.OK}, {"-" + small, "0." + zeros(9) + "35", "-0." + zeros(19) + "4", api.OK}, {"-" + small, "0." + zeros(9) + "45", "-0." + zeros(19) + "4", api.OK}, {small, "0." + zeros(10) + "500000001", least, api.OK}, {small, "0." + zeros(10) + "499999999", "0", api.OK},
		{least, "0.5", "0", api.OK}, {least, "-0.5", "0", api.OK}, {"-" + least, least, "0", api.OK}, {least, "1.5", "0." + zeros(19) + "2", api.OK}, {least, "2.5", "0." + zeros(19) + "2", api.OK}, {least, "0.51", least, api.OK}, {"-" + least, "0.51", "-" + least, api.OK}, {greatest, least, "10000000000", api.OK},
		{greatest, "1", greatest, api.OK}, {greatest, "-1", "-" + greatest, api.OK}, {greatest, "0.1", "1" + zeros(29), api.OK}, {greatest, "0." + nines(20), nines(19) + "8" + nines(10) + "." + nines(20), api.OK}, {"1" + zeros(15), "1" + zeros(14), "1" + zeros(29), api.OK}, {nines(15), nines(15), nines(14) + "8" + zeros(14) + "1", api.OK},
		{"1" + zeros(15), "1" + zeros(15), "", api.ErrPlus}, {"-1" + zeros(15), "1" + zeros(15), "", api.ErrPlus}, {greatest, greatest, "", api.ErrPlus}, {greatest, "1." + zeros(19) + "1", "", api.ErrPlus}, {"-" + greatest, "2", "", api.ErrPlus},
		// A product of 10^30 less 10^-40 is rounded to 10^30; one of 10^30 less 10^-20 is not.
		{nines(15) + "." + nines(20), "1" + zeros(15) + "." + zeros(19) + "1", "", api.ErrPlus}, {nines(15) + "." + nines(10), "-1" + zeros(15) + "." + zeros(9) + "1", "-" + greatest, api.OK},
	})
}

// P4.2: Neg.
func TestNeg(t *testing.T) {
	for _, s := range canonical() {
		want := "-" + s
		if s == "0" {
			want = s
		} else if s[0] == '-' {
			want = s[1:]
		}
		if got, e := num.Neg(s); got != want || e != api.OK {
			t.Errorf("Neg of %s: %q, %d", s, got, e)
		}
	}
}

// P4.3: quotients, which are rounded, and the errors.
func TestDiv(t *testing.T) {
	checkRows(t, "Div", num.Div, []row{
		{"0", "5", "0", api.OK}, {"0", "-5", "0", api.OK}, {"6", "3", "2", api.OK}, {"-6", "3", "-2", api.OK}, {"6", "-3", "-2", api.OK}, {"-6", "-3", "2", api.OK}, {"10", "4", "2.5", api.OK}, {"1", "8", "0.125", api.OK}, {"0.3", "0.1", "3", api.OK}, {"0.1", "0.3", "0." + strings.Repeat("3", 20), api.OK}, {"-1", "3", "-0." + strings.Repeat("3", 20), api.OK}, {"-2", "3", "-0." + strings.Repeat("6", 19) + "7", api.OK}, {"1", "7", "0.14285714285714285714", api.OK}, {"22", "7", "3.14285714285714285714", api.OK}, {"10", "6", "1." + strings.Repeat("6", 19) + "7", api.OK},
		{"1000000000", "999999999", "1.000000001000000001", api.OK}, {least, "2", "0", api.OK}, {"0." + zeros(19) + "3", "2", "0." + zeros(19) + "2", api.OK}, {"0." + zeros(19) + "5", "2", "0." + zeros(19) + "2", api.OK}, {"-0." + zeros(19) + "7", "2", "-0." + zeros(19) + "4", api.OK}, {"-0." + zeros(19) + "5", "-2", "0." + zeros(19) + "2", api.OK}, {"-" + least, "2", "0", api.OK}, {least, "1.5", least, api.OK}, {least, "2.00000000000000000001", "0", api.OK}, {least, "1." + nines(20), least, api.OK},
		{least, least, "1", api.OK}, {least, greatest, "0", api.OK}, {"1", greatest, "0", api.OK}, {"1", "2" + zeros(20), "0", api.OK}, {"1", "1" + nines(20), least, api.OK}, {"3", "2" + zeros(20), "0." + zeros(19) + "2", api.OK}, {greatest, greatest, "1", api.OK}, {greatest, "-" + greatest, "-1", api.OK}, {greatest, "1", greatest, api.OK}, {greatest, "3", strings.Repeat("3", 30) + "." + strings.Repeat("3", 20), api.OK}, {greatest, "2", "5" + zeros(29), api.OK}, {greatest, nines(30), "1", api.OK},
		{"1", least, "1" + zeros(20), api.OK}, {nines(10), least, nines(10) + zeros(20), api.OK}, {"9999999999.99999999999999999999", least, nines(30), api.OK}, {"1" + zeros(10), least, "", api.ErrPlus}, {greatest, "0.1", "", api.ErrPlus}, {greatest, "0." + nines(20), "", api.ErrPlus}, {"-" + greatest, least, "", api.ErrPlus}, {nines(30), "0." + nines(20), "", api.ErrPlus}, {"1" + zeros(29), "0.1", "", api.ErrPlus}, {"1" + zeros(29), "0.11", "9" + strings.Repeat("09", 14) + "0." + strings.Repeat("90", 9) + "91", api.OK},
		{"1", "0", "", api.ErrDiv}, {"0", "0", "", api.ErrDiv}, {"-0.5", "0", "", api.ErrDiv}, {greatest, "0", "", api.ErrDiv},
	})
}

// P4.4: whole quotients and remainders, and the errors.
func TestIDivAndMod(t *testing.T) {
	for _, x := range []struct {
		a, b, quotient, rest string
	}{
		{"0", "5", "0", "0"}, {"0", "-0.5", "0", "0"}, {"7", "2", "3", "1"}, {"-7", "2", "-3", "-1"}, {"7", "-2", "-3", "1"}, {"-7", "-2", "3", "-1"}, {"1", "3", "0", "1"}, {"-1", "3", "0", "-1"}, {"2", "3", "0", "2"}, {"6", "3", "2", "0"}, {"-6", "3", "-2", "0"}, {"0.3", "0.1", "3", "0"}, {"1", "0.3", "3", "0.1"}, {"-1", "0.3", "-3", "-0.1"}, {"5.5", "-5.5", "-1", "0"}, {"7.5", "2", "3", "1.5"}, {"0.5", "7", "0", "0.5"}, {"100", "7", "14", "2"},
		{"1000000000", "3", "333333333", "1"}, {"18446744073709551616", "4294967297", "4294967295", "1"}, {least, greatest, "0", least}, {greatest, greatest, "1", "0"}, {greatest, "-1", "-" + nines(30), "0." + nines(20)}, {"-" + greatest, "1", "-" + nines(30), "-0." + nines(20)}, {nines(10), least, nines(10) + zeros(20), "0"}, {"5" + zeros(29), "0.6", "8" + strings.Repeat("3", 29), "0.2"},
		// Quotients that are 1 if they are rounded before they are cut.
		{greatest[:len(greatest)-1] + "8", greatest, "0", greatest[:len(greatest)-1] + "8"}, {"-" + nines(30), greatest, "0", "-" + nines(30)}, {"2" + zeros(25), "2" + zeros(25) + "." + zeros(19) + "1", "0", "2" + zeros(25)},
		// The highest digits of these two numbers have a quotient that is greater by 1.
		{"9999999.99999999998", "0.01000000000999999999", "999999998", "0.01000000000999999998"},
		// Whole quotients that are too large.
		{greatest, least, "", "0"}, {greatest, "0.3", "", "0.0" + nines(19)}, {"-" + greatest, "0.3", "", "-0.0" + nines(19)}, {nines(30), "0.5", "", "0"}, {"5" + zeros(29), "-0.5", "", "0"}, {"1" + zeros(10), least, "", "0"}, {"1" + zeros(29), "-0.1", "", "0"},
	} {
		want := api.OK
		if x.quotient == "" {
			want = api.ErrPlus
		}
		checkRows(t, "IDiv", num.IDiv, []row{{x.a, x.b, x.quotient, want}})
		checkRows(t, "Mod", num.Mod, []row{{x.a, x.b, x.rest, api.OK}})
	}
	for _, a := range canonical() {
		checkRows(t, "IDiv", num.IDiv, []row{{a, "0", "", api.ErrDiv}})
		checkRows(t, "Mod", num.Mod, []row{{a, "0", "", api.ErrDiv}})
	}
}

// inOrder returns numbers, each of which is greater than the one before it.
func inOrder() []string {
	return []string{
		"-" + greatest, "-" + nines(30), "-1" + zeros(29), "-1000000000.000000001", "-1000000000", "-999999999", "-11", "-10", "-9.5", "-9", "-1.01", "-1." + zeros(19) + "1", "-1", "-0." + nines(20), "-0.5", "-0.1", "-0.05", "-" + least,
		"0", least, "0.000000001", "0.05", "0.1", "0.10000000000000000001", "0.11", "0.5", "0.9", "0." + nines(20), "1", "1.01", "1.1", "2", "9.5", "10", "11", "100", "999999999", "999999999.5", "1000000000", "1000000001", "18446744073709551615", "18446744073709551616", "1" + zeros(29), "1" + zeros(29) + "." + zeros(19) + "1", nines(30), greatest,
	}
}

// P4.5: Cmp.
func TestCmp(t *testing.T) {
	l := inOrder()
	for i, a := range l {
		for k, b := range l {
			want := 0
			if i < k {
				want = -1
			} else if i > k {
				want = 1
			}
			if got, e := num.Cmp(a, b); got != want || e != api.OK {
				t.Errorf("Cmp of %s and %s: %d, %d", a, b, got, e)
			}
		}
	}
}

// P4.5: IsInt.
func TestIsInt(t *testing.T) {
	for _, s := range append(canonical(), inOrder()...) {
		if got := num.IsInt(s); got == strings.Contains(s, ".") {
			t.Errorf("IsInt of %s: %t", s, got)
		}
	}
	for _, s := range notCanonical() {
		if num.IsInt(s) {
			t.Errorf("IsInt of %d bytes %.50q", len(s), s)
		}
	}
}

// P4.6: numbers to so many digits, in each way.
func TestRound(t *testing.T) {
	big := "1" + zeros(29)
	checkRoundings(t, []roundings{
		{"0", 0, [5]string{"0", "0", "0", "0", "0"}}, {"0", -30, [5]string{"0", "0", "0", "0", "0"}}, {"0", 20, [5]string{"0", "0", "0", "0", "0"}}, {"7", 0, [5]string{"7", "7", "7", "7", "7"}}, {"-7", 5, [5]string{"-7", "-7", "-7", "-7", "-7"}}, {"1.25", 2, [5]string{"1.25", "1.25", "1.25", "1.25", "1.25"}},
		{"0.5", 0, [5]string{"1", "0", "0", "1", "0"}}, {"-0.5", 0, [5]string{"0", "0", "-1", "0", "0"}}, {"1.5", 0, [5]string{"2", "2", "1", "2", "1"}}, {"-1.5", 0, [5]string{"-1", "-2", "-2", "-1", "-1"}}, {"3.5", 0, [5]string{"4", "4", "3", "4", "3"}}, {"-3.5", 0, [5]string{"-3", "-4", "-4", "-3", "-3"}},
		{"0.4", 0, [5]string{"0", "0", "0", "1", "0"}}, {"-0.4", 0, [5]string{"0", "0", "-1", "0", "0"}}, {"0.6", 0, [5]string{"1", "1", "0", "1", "0"}}, {"-0.6", 0, [5]string{"-1", "-1", "-1", "0", "0"}}, {"2.50000000000000000001", 0, [5]string{"3", "3", "2", "3", "2"}}, {"-2.50000000000000000001", 0, [5]string{"-3", "-3", "-3", "-2", "-2"}}, {"2.49999999999999999999", 0, [5]string{"2", "2", "2", "3", "2"}}, {"-2.49999999999999999999", 0, [5]string{"-2", "-2", "-3", "-2", "-2"}},
		{"1.005", 2, [5]string{"1.01", "1", "1", "1.01", "1"}}, {"-1.015", 2, [5]string{"-1.01", "-1.02", "-1.02", "-1.01", "-1.01"}}, {"0.999", 2, [5]string{"1", "1", "0.99", "1", "0.99"}}, {"9.95", 1, [5]string{"10", "10", "9.9", "10", "9.9"}}, {"123.456", 1, [5]string{"123.5", "123.5", "123.4", "123.5", "123.4"}},
		{"1250", -2, [5]string{"1300", "1200", "1200", "1300", "1200"}}, {"-1250", -2, [5]string{"-1200", "-1200", "-1300", "-1200", "-1200"}}, {"1350", -2, [5]string{"1400", "1400", "1300", "1400", "1300"}}, {"1250.1", -2, [5]string{"1300", "1300", "1200", "1300", "1200"}}, {"49", -2, [5]string{"0", "0", "0", "100", "0"}}, {"-49", -2, [5]string{"0", "0", "-100", "0", "0"}}, {"5", -1, [5]string{"10", "0", "0", "10", "0"}}, {"-15", -1, [5]string{"-10", "-20", "-20", "-10", "-10"}}, {"500000000", -9, [5]string{"1000000000", "0", "0", "1000000000", "0"}}, {"1500000000", -9, [5]string{"2000000000", "2000000000", "1000000000", "2000000000", "1000000000"}},
		{least, 20, [5]string{least, least, least, least, least}}, {"0." + zeros(18) + "15", 19, [5]string{"0." + zeros(18) + "2", "0." + zeros(18) + "2", "0." + zeros(18) + "1", "0." + zeros(18) + "2", "0." + zeros(18) + "1"}}, {least, 19, [5]string{"0", "0", "0", "0." + zeros(18) + "1", "0"}}, {"-" + least, -29, [5]string{"0", "0", "-" + big, "0", "0"}}, {greatest, 20, [5]string{greatest, greatest, greatest, greatest, greatest}},
		{greatest, 0, [5]string{"", "", nines(30), "", nines(30)}}, {"-" + greatest, 0, [5]string{"", "", "", "-" + nines(30), "-" + nines(30)}}, {greatest, 19, [5]string{"", "", greatest[:len(greatest)-1], "", greatest[:len(greatest)-1]}}, {greatest, -30, [5]string{"", "", "0", "", "0"}}, {"5" + zeros(29), -30, [5]string{"", "0", "0", "", "0"}}, {"-5" + zeros(29), -30, [5]string{"0", "0", "", "0", "0"}}, {"4" + nines(29) + "." + nines(20), -30, [5]string{"0", "0", "0", "", "0"}}, {"5" + zeros(28) + "1", -30, [5]string{"", "", "0", "", "0"}}, {"-6" + zeros(29), -30, [5]string{"", "", "", "0", "0"}}, {"1", -30, [5]string{"0", "0", "0", "", "0"}}, {"-1", -30, [5]string{"0", "0", "", "0", "0"}}, {"95" + zeros(28), -29, [5]string{"", "", "9" + zeros(29), "", "9" + zeros(29)}}, {"-85" + zeros(28), -29, [5]string{"-8" + zeros(29), "-8" + zeros(29), "-9" + zeros(29), "-8" + zeros(29), "-8" + zeros(29)}},
	})
}

// P4.6: the errors, and their order.
func TestRoundErrors(t *testing.T) {
	for _, x := range []struct {
		a      string
		digits int
		how    string
		e      api.Errno
	}{
		{"1", -31, "even", api.ErrRange}, {"1", 21, "even", api.ErrRange}, {"1", math.MinInt, "half", api.ErrRange}, {"1", math.MaxInt, "half", api.ErrRange}, {"1", 1 << 32, "cut", api.ErrRange}, {"1", -1 << 32, "cut", api.ErrRange}, {"1", 21, "", api.ErrRange}, {greatest, -31, "ceiling", api.ErrRange}, {greatest, 100, "x", api.ErrRange},
		{"1", 0, "", api.ErrArg}, {"1", 20, "Half", api.ErrArg}, {"1", -30, "even ", api.ErrArg}, {greatest, -30, "up", api.ErrArg}, {greatest, 0, "ceil", api.ErrArg}, {"0", 0, "\xff", api.ErrArg}, {"1", 0, strings.Repeat("half", 1000), api.ErrArg},
		{"", 21, "x", api.ErrArg}, {"1.0", -31, "half", api.ErrArg}, {"-0", 21, "half", api.ErrArg}, {nines(31), 21, "floor", api.ErrArg}, {"+1", 0, "half", api.ErrArg},
		{greatest, -30, "half", api.ErrPlus}, {greatest, 19, "even", api.ErrPlus}, {"-" + greatest, -1, "floor", api.ErrPlus},
	} {
		if got, e := num.Round(x.a, x.digits, x.how); got != "" || e != x.e {
			t.Errorf("Round of %.50s to %d, %.20q: %q, %d, not %d", x.a, x.digits, x.how, got, e, x.e)
		}
	}
}

// ErrArg comes first, for each argument that stands for a number.
func TestNotCanonical(t *testing.T) {
	for _, s := range notCanonical() {
		for name, f := range map[string]binary{"Add": num.Add, "Sub": num.Sub, "Mul": num.Mul, "Div": num.Div, "IDiv": num.IDiv, "Mod": num.Mod} {
			for _, x := range [][2]string{{s, "1"}, {"1", s}, {s, "0"}, {"0", s}, {s, s}, {s, greatest}, {greatest, s}} {
				if got, e := f(x[0], x[1]); got != "" || e != api.ErrArg {
					t.Errorf("%s of %.50q and %.50q: %q, %d", name, x[0], x[1], got, e)
				}
			}
		}
		for _, x := range [][2]string{{s, "1"}, {"1", s}, {s, s}} {
			if got, e := num.Cmp(x[0], x[1]); got != 0 || e != api.ErrArg {
				t.Errorf("Cmp of %.50q and %.50q: %d, %d", x[0], x[1], got, e)
			}
		}
		if got, e := num.Neg(s); got != "" || e != api.ErrArg {
			t.Errorf("Neg of %.50q: %q, %d", s, got, e)
		}
		for _, digits := range []int{0, 20, 21, -31} {
			for _, how := range append(ways(), "x") {
				if got, e := num.Round(s, digits, how); got != "" || e != api.ErrArg {
					t.Errorf("Round of %.50q to %d, %s: %q, %d", s, digits, how, got, e)
				}
			}
		}
	}
}

// Canonical texts are arguments of all functions, also the longest ones.
func TestCanonical(t *testing.T) {
	for _, s := range append(canonical(), inOrder()...) {
		checkParse(t, [][2]string{{s, s}})
		for name, f := range map[string]binary{"Add": num.Add, "Sub": num.Sub} {
			checkRows(t, name, f, []row{{s, "0", s, api.OK}})
		}
		checkRows(t, "Mul", num.Mul, []row{{s, "1", s, api.OK}, {"1", s, s, api.OK}, {s, "0", "0", api.OK}})
		checkRows(t, "Div", num.Div, []row{{s, "1", s, api.OK}})
		checkRows(t, "Sub", num.Sub, []row{{s, s, "0", api.OK}})
		checkRoundings(t, []roundings{{s, 20, [5]string{s, s, s, s, s}}})
	}
}

// R5: equal calls return equal results, in several goroutines too.
func TestGoroutines(t *testing.T) {
	var group sync.WaitGroup
	for range 8 {
		group.Go(func() {
			for range 200 {
				if s, e := num.Div("2", "3"); s != "0.66666666666666666667" || e != api.OK {
					t.Error(s, e)
				}
				if s, e := num.Round("-2.5", 0, "even"); s != "-2" || e != api.OK {
					t.Error(s, e)
				}
			}
		})
	}
	group.Wait()
}
