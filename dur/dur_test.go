package dur_test

import (
	"math"
	"strings"
	"sync"
	"testing"

	"chisel/api"
	"chisel/dur"
)

// greatest is the greatest number of seconds, and least the least one above 0.
const (
	greatest = "999999999999999999999999999999.99999999999999999999"
	least    = "0.00000000000000000001"
)

// zeros returns n digits 0.
func zeros(n int) string { return strings.Repeat("0", n) }

// nines returns n digits 9.
func nines(n int) string { return strings.Repeat("9", n) }

// long returns a form with these ends, and with so many zeros between them that it has n bytes.
func long(begin, end string, n int) string {
	return begin + zeros(n-len(begin)-len(end)) + end
}

// opposite returns the form or the number with a minus sign before it, or without the one that it has.
func opposite(s string) string {
	if strings.HasPrefix(s, "-") {
		return s[1:]
	}
	return "-" + s
}

// months is a form of months, and what it stands for.
type months struct {
	s    string
	want int
}

// checkMonths checks what ParseMonths returns, also for the form with a minus sign.
func checkMonths(t *testing.T, l []months) {
	t.Helper()
	for _, x := range l {
		if got, e := dur.ParseMonths(x.s); got != x.want || e != api.OK {
			t.Errorf("ParseMonths of %s: %d, %d, not %d", x.s, got, e, x.want)
		}
		if got, e := dur.ParseMonths(opposite(x.s)); len(x.s) < 200 && (got != -x.want || e != api.OK) {
			t.Errorf("ParseMonths of %s: %d, %d, not %d", opposite(x.s), got, e, -x.want)
		}
	}
}

// checkSeconds checks what ParseSeconds returns for forms, also for those with a minus sign.
func checkSeconds(t *testing.T, l [][2]string) {
	t.Helper()
	for _, x := range l {
		if got, e := dur.ParseSeconds(x[0]); got != x[1] || e != api.OK {
			t.Errorf("ParseSeconds of %s: %q, %d, not %q", x[0], got, e, x[1])
		}
		want := opposite(x[1])
		if x[1] == "0" {
			want = "0"
		}
		if got, e := dur.ParseSeconds(opposite(x[0])); len(x[0]) < 200 && (got != want || e != api.OK) {
			t.Errorf("ParseSeconds of %s: %q, %d, not %q", opposite(x[0]), got, e, want)
		}
	}
}

// checkMonthsError checks which error ParseMonths returns.
func checkMonthsError(t *testing.T, want api.Errno, l ...string) {
	t.Helper()
	for _, s := range l {
		if got, e := dur.ParseMonths(s); got != 0 || e != want {
			t.Errorf("ParseMonths of %d bytes %.60q: %d, %d, not %d", len(s), s, got, e, want)
		}
	}
}

// checkSecondsError checks which error ParseSeconds returns.
func checkSecondsError(t *testing.T, want api.Errno, l ...string) {
	t.Helper()
	for _, s := range l {
		if got, e := dur.ParseSeconds(s); got != "" || e != want {
			t.Errorf("ParseSeconds of %d bytes %.60q: %q, %d, not %d", len(s), s, got, e, want)
		}
	}
}

// checkTextMonths checks what TextMonths returns.
func checkTextMonths(t *testing.T, l []months) {
	t.Helper()
	for _, x := range l {
		if got, e := dur.TextMonths(x.want); got != x.s || e != api.OK {
			t.Errorf("TextMonths of %d: %q, %d, not %q", x.want, got, e, x.s)
		}
		if got, e := dur.TextMonths(-x.want); x.want != 0 && (got != opposite(x.s) || e != api.OK) {
			t.Errorf("TextMonths of %d: %q, %d, not %q", -x.want, got, e, opposite(x.s))
		}
	}
}

// checkTextSeconds checks what TextSeconds returns for numbers.
func checkTextSeconds(t *testing.T, l [][2]string) {
	t.Helper()
	for _, x := range l {
		if got, e := dur.TextSeconds(x[0]); got != x[1] || e != api.OK {
			t.Errorf("TextSeconds of %s: %q, %d, not %q", x[0], got, e, x[1])
		}
		if got, e := dur.TextSeconds(opposite(x[0])); x[0] != "0" && (got != opposite(x[1]) || e != api.OK) {
			t.Errorf("TextSeconds of %s: %q, %d, not %q", opposite(x[0]), got, e, opposite(x[1]))
		}
	}
}

// The examples of the chapter.
func TestExamples(t *testing.T) {
	checkMonths(t, []months{{"P1Y2M", 14}, {"-P1M", -1}, {"P0Y", 0}, {"P024M", 24}})
	checkMonthsError(t, api.ErrForm, "P", "P1M2Y", "P1D")
	checkTextMonths(t, []months{{"P1Y2M", 14}, {"-P1Y", -12}, {"P0M", 0}})
	if got, e := dur.TextMonths(10_000_000_000); got != "" || e != api.ErrRange {
		t.Errorf("TextMonths of 10^10: %q, %d", got, e)
	}
	checkSeconds(t, [][2]string{{"P1DT2H3M4.5S", "93784.5"}, {"-PT0.0S", "0"}, {"PT90M", "5400"}})
	checkSecondsError(t, api.ErrForm, "PT", "P1DT", "PT.5S")
	checkTextSeconds(t, [][2]string{{"93784.5", "P1DT2H3M4.5S"}, {"-86400", "-P1D"}, {"0.001", "PT0.001S"}, {"0", "PT0S"}})
	if got, e := dur.TextSeconds("-0"); got != "" || e != api.ErrArg {
		t.Errorf("TextSeconds of -0: %q, %d", got, e)
	}
}

// P6.1: forms of months.
func TestParseMonths(t *testing.T) {
	checkMonths(t, []months{
		{"P0M", 0}, {"P0Y0M", 0}, {"P0Y", 0}, {"P1M", 1}, {"P1Y", 12}, {"P1Y1M", 13}, {"P1Y0M", 12}, {"P0Y1M", 1}, {"P2Y11M", 35}, {"P11M", 11}, {"P12M", 12}, {"P13M", 13}, {"P1Y12M", 24}, {"P1Y25M", 37}, {"P100Y", 1200}, {"P1234M", 1234}, {"P56Y789M", 1461},
		{"P00Y", 0}, {"P01Y02M", 14}, {"P0001M", 1}, {"P0000000000000000000000000000000001Y00000000000000000000000000000000000000000002M", 14},
		{"P2147483647M", 2147483647}, {"P2147483648M", 2147483648}, {"P4294967296M", 4294967296}, {"P178956971Y", 2147483652}, {"P9999999999M", 9999999999}, {"P09999999999M", 9999999999}, {"P833333333Y", 9999999996}, {"P833333333Y3M", 9999999999}, {"P1Y9999999987M", 9999999999}, {"P833333332Y15M", 9999999999}, {"P0Y9999999999M", 9999999999},
		{long("P", "0M", 200), 0}, {long("P", "7M", 200), 7}, {long("-P", "7Y", 200), -84}, {long("P", "0Y1M", 199), 1}, {long("P3Y", "8M", 200), 44}, {long("P", "9999999999M", 200), 9999999999},
	})
}

// P6.1: strings that are no form of months.
func TestParseMonthsForm(t *testing.T) {
	checkMonthsError(t, api.ErrForm,
		"", "-", "P", "-P", "1", "1Y", "1M", "-1M", "Y", "M", "PY", "PM", "PYM", "P1", "-P1", "P1Y2", "P1YM", "PY1M", "P1Y1Y", "P1M1M", "P1M2Y", "P1Y2M3", "P1Y2M3Y", "P1Y2M3M", "P1YP2M", "PP1M", "P1MP", "P1M ", " P1M", "P 1M", "P1 M", "P1Y 2M", "- P1M", "P1M\n", "\tP1M",
		"+P1M", "--P1M", "P-1M", "P+1M", "P1Y-2M", "P1M-", "-P-1M", "p1m", "P1m", "p1M", "P1y", "1YP", "M1P", "P1.5M", "P1.M", "P.5M", "P1.0M", "P1.5Y", "P1,5Y", "P1e1M", "P1_0M", "P0x1M",
		"P1D", "PT1M", "P1YT", "P1MT", "P1YT1M", "P1YT1H", "PT", "PT1H", "P1Y2M3D", "P1Y2MT3S", "P1S", "P1H", "P1W", "PT0S", "T1M", "P1Y2M3W",
		"P\u0661M", "P\uff11M", "\u2212P1M", "P1\u041c", "P1M\x00", "P\x001M", "\xff", "P1\xffM", "P1M\xff", "P1/M", "P:1M", "P\u00e9M",
		long("P", "", 200), long("-P", "", 200), long("P", "D", 200), long("P1M", "Y", 200), "P"+nines(30), "P"+nines(30)+"D", strings.Repeat("P", 200), strings.Repeat("-", 200), strings.Repeat("\xff", 200), strings.Repeat("1M", 100),
	)
}

// P6.1: what is too much, and the order of the errors.
func TestParseMonthsErrors(t *testing.T) {
	checkMonthsError(t, api.ErrRange,
		"P10000000000M", "-P10000000000M", "P833333333Y4M", "-P833333333Y4M", "P833333334Y", "-P833333334Y", "P1Y9999999988M", "P9999999999Y", "P9999999999Y9999999999M", "P1Y9999999999M", "P9223372036854775807M", "P9223372036854775808M", "-P9223372036854775808M", "-P9223372036854775809M", "P18446744073709551616M", "P18446744073709551617M", "P1537228672809129302Y", "P1537228672809129301Y4M", "P1844674407370955161Y", "P18446744073709551616Y", "P1Y18446744073709551616M",
		"P"+nines(30)+"M", "P"+nines(31)+"M", "P1"+zeros(30)+"M", "P1"+zeros(30)+"Y", "P1"+zeros(30)+"Y0M", "P0Y1"+zeros(30)+"M", "-P"+nines(30)+"Y"+nines(30)+"M", "P"+nines(198)+"M", "P"+nines(198)+"Y", "-P"+nines(97)+"Y"+nines(98)+"M", long("P1", "M", 200), long("P1Y1", "M", 200), long("P", "10000000000M", 200),
	)
	checkMonthsError(t, api.ErrLong,
		long("P", "M", 201), long("P", "1M", 201), long("-P", "0Y", 201), long("P1Y", "1M", 201), long("P1", "M", 201), "P"+nines(199)+"M", long("P", "", 201), long("P", "D", 201), zeros(201), strings.Repeat("P", 201), strings.Repeat("-", 201), strings.Repeat("\xff", 201), strings.Repeat("\u0661", 101), strings.Repeat("P1M", 1<<20), strings.Repeat(" ", 1<<20),
	)
}

// P6.2: canonical texts of months, and numbers that have none.
func TestTextMonths(t *testing.T) {
	checkTextMonths(t, []months{
		{"P0M", 0}, {"P1M", 1}, {"P2M", 2}, {"P10M", 10}, {"P11M", 11}, {"P1Y", 12}, {"P1Y1M", 13}, {"P1Y11M", 23}, {"P2Y", 24}, {"P2Y1M", 25}, {"P10Y", 120}, {"P10Y10M", 130}, {"P100Y", 1200}, {"P83Y4M", 1000}, {"P178956970Y7M", math.MaxInt32}, {"P178956970Y8M", 1 << 31}, {"P357913941Y4M", 1 << 32}, {"P833333333Y", 9999999996}, {"P833333333Y2M", 9999999998}, {"P833333333Y3M", 9999999999},
	})
	for _, n := range []int{10000000000, 10000000001, 10000000002, 1 << 34, 1 << 40, 1 << 62, math.MaxInt64 - 1, math.MaxInt64} {
		for _, n := range []int{n, -n} {
			if got, e := dur.TextMonths(n); got != "" || e != api.ErrRange {
				t.Errorf("TextMonths of %d: %q, %d", n, got, e)
			}
		}
	}
	if got, e := dur.TextMonths(math.MinInt64); got != "" || e != api.ErrRange {
		t.Errorf("TextMonths of the least number: %q, %d", got, e)
	}
}

// P6.3: forms of seconds.
func TestParseSeconds(t *testing.T) {
	checkSeconds(t, [][2]string{
		{"PT0S", "0"}, {"P0D", "0"}, {"PT0H", "0"}, {"PT0M", "0"}, {"P0DT0H0M0S", "0"}, {"PT0.000S", "0"}, {"P0DT0.0S", "0"},
		{"PT1S", "1"}, {"PT1M", "60"}, {"PT1H", "3600"}, {"P1D", "86400"}, {"P1DT1S", "86401"}, {"P1DT1M", "86460"}, {"P1DT1H", "90000"}, {"PT1H1S", "3601"}, {"PT1M1S", "61"}, {"PT1H1M", "3660"}, {"PT1H1M1S", "3661"}, {"P1DT1H1M", "90060"}, {"P1DT1H1S", "90001"}, {"P1DT1M1S", "86461"}, {"P1DT1H1M1S", "90061"}, {"P2DT3H4M5S", "183845"}, {"P10DT20H30M40S", "937840"},
		{"PT60S", "60"}, {"PT61S", "61"}, {"PT59S", "59"}, {"PT60M", "3600"}, {"PT24H", "86400"}, {"PT25H", "90000"}, {"PT1440M", "86400"}, {"PT86400S", "86400"}, {"PT1M60S", "120"}, {"PT1H100M1000S", "10600"}, {"P1DT48H", "259200"}, {"P365D", "31536000"}, {"PT1000000S", "1000000"},
		{"PT0.5S", "0.5"}, {"PT1.5S", "1.5"}, {"PT1.50S", "1.5"}, {"PT1.0S", "1"}, {"PT00.10S", "0.1"}, {"PT59.999S", "59.999"}, {"PT60.001S", "60.001"}, {"PT1M0.5S", "60.5"}, {"PT1H0.25S", "3600.25"}, {"P1DT0.125S", "86400.125"}, {"P1DT1H1M1.01S", "90061.01"},
		{"P01D", "86400"}, {"P0001DT002H03M0004.50S", "93784.5"}, {"PT000000000000000000000000000000000000000000000001S", "1"}, {"P00000000000000000000000000000000000000000000000000000001DT0H", "86400"}, {"PT000000000000000000000000000000000000000000000001H", "3600"}, {"PT000000000000000000000000000000000000000000000001M", "60"}, {"PT000000000000000000000000000000000000000000000001.2300S", "1.23"},
		{long("P", "1D", 200), "86400"}, {long("-P", "1D", 200), "-86400"}, {long("PT", "1H", 200), "3600"}, {long("PT", "2M", 200), "120"}, {long("PT", "3S", 200), "3"}, {long("PT1.", "S", 200), "1"}, {long("PT", ".5S", 200), "0.5"}, {long("P1DT", "1.5S", 199), "86401.5"}, {long("-PT1H2M", "3.25S", 200), "-3723.25"},
	})
}

// P6.3: seconds are rounded "even" to 20 digits.
func TestParseSecondsRounds(t *testing.T) {
	checkSeconds(t, [][2]string{
		{"PT" + least + "S", least}, {"PT0." + nines(20) + "S", "0." + nines(20)}, {"PT" + least + "000S", least}, {"P1DT0." + nines(20) + "S", "86400." + nines(20)},
		{"PT0." + zeros(20) + "1S", "0"}, {"PT0." + zeros(20) + "4" + nines(100) + "S", "0"}, {"PT0." + zeros(20) + "5S", "0"}, {"PT0." + zeros(20) + "50000S", "0"}, {"PT0." + zeros(20) + "5" + zeros(150) + "1S", least}, {"PT0." + zeros(20) + "51S", least}, {"PT0." + zeros(20) + "6S", least}, {"PT0." + zeros(19) + "15S", "0." + zeros(19) + "2"}, {"PT0." + zeros(19) + "25S", "0." + zeros(19) + "2"}, {"PT0." + zeros(19) + "25000001S", "0." + zeros(19) + "3"}, {"PT0." + zeros(19) + "35S", "0." + zeros(19) + "4"},
		{"PT0." + nines(21) + "S", "1"}, {"PT59." + nines(21) + "S", "60"}, {"PT1M0." + nines(21) + "S", "61"}, {"PT59M59." + nines(30) + "S", "3600"}, {"P1DT0." + zeros(20) + "5S", "86400"}, {"P1DT0." + zeros(20) + "51S", "86400." + zeros(19) + "1"}, {"P1DT0." + zeros(19) + "15S", "86400." + zeros(19) + "2"}, {"PT1H0." + zeros(19) + "25S", "3600." + zeros(19) + "2"}, {"PT1S", "1"}, {"PT1.00000000000000000000000005S", "1"}, {"PT3." + zeros(20) + "5S", "3"}, {"PT1M1." + zeros(20) + "5S", "61"}, {"P1DT23H59M59." + nines(20) + "5S", "172800"}, {"P1DT23H59M59." + nines(20) + "4S", "172799." + nines(20)},
	})
}

// P6.3: strings that are no form of seconds.
func TestParseSecondsForm(t *testing.T) {
	checkSecondsError(t, api.ErrForm,
		"", "-", "P", "-P", "T", "PT", "-PT", "P1DT", "-P0DT", "1", "1S", "T1S", "-T1S", "D", "PD", "PTH", "PTM", "PTS", "P1", "PT1", "P1DT1", "P1D1", "P1DT1H1", "PT1H2", "P1TD", "PT1HM", "PT1HS", "PTH1M", "PDT1S", "P1DTS", "P1D2D", "PT1H2H", "PT1M2M", "PT1S2S", "PT1M2H", "PT1S2M", "PT1S2H", "PT1H2S3M", "PT1H1D", "PT1D", "P1H", "P1M", "P1S", "P1DT1D", "P1D1H", "P1D1S", "P1D1.5S", "PT1HT1M", "PTT1S", "P1DTT1S", "PT1S1", "PT1ST", "PT1SP", "P1DP1D", "PPT1S", "P1DPT1S", "P1DT1S2D",
		"PT.5S", "PT5.S", "PT.S", "PT1.2.3S", "PT1..2S", "PT1.5", "PT1.5M", "PT1.5H", "P1.5D", "P1.0D", "PT1.0H1S", "P.5D", "P1.D", "PT1.H", "PT1H.5S", "PT1H5.S", "PT1,5S", "PT1.-5S", "PT1.5.S", "PT1.+5S", "PT1e1S", "PT1E1S", "PT1.5e1S", "PT1_0S", "PT0x1S", "PTinfS",
		"+PT1S", "--PT1S", "P-1D", "P+1D", "PT-1S", "PT+1S", "-P-1D", "-PT-1S", "P1DT-1H", "PT1S-", "PT-0.5S", " PT1S", "PT1S ", "PT 1S", "P T1S", "PT1 S", "P1D T1S", "P1DT 1S", "PT1H 1M", "- PT1S", "PT1S\n", "\tP1D", "PT1\nS",
		"pt1s", "Pt1S", "pT1S", "PT1s", "PT1h", "PT1m", "P1d", "P1Dt1S", "P1Y", "P1Y1D", "P1M1D", "P1W", "P1Y2M", "P1Y2M3DT4H5M6S", "P0M", "P1MT1M",
		"P\u0661D", "PT\uff11S", "\u2212PT1S", "PT1\uff33", "PT1S\x00", "P\x001D", "\xff", "PT1\xffS", "PT1S\xff", "PT1/S", "PT:1S", "PT1.\u0661S", "PT1\u00b75S", "P\u00e9D",
		long("P", "", 200), long("PT", "", 200), long("P1DT", "", 200), long("P", "S", 200), long("PT1.", "M", 200), long("PT", ".S", 200), "PT"+nines(40), "P"+nines(40)+"DT", "PT"+nines(40)+".S", strings.Repeat("P", 200), strings.Repeat("T", 200), strings.Repeat("-", 200), strings.Repeat(".", 200), strings.Repeat("\xff", 200), "P"+strings.Repeat("1D", 99), "PT"+strings.Repeat("1S", 99),
	)
}

// P6.3: what is too large, and what nearly is.
func TestParseSecondsErrors(t *testing.T) {
	checkSeconds(t, [][2]string{
		{"PT" + nines(30) + "S", nines(30)}, {"PT" + greatest + "S", greatest}, {"PT" + greatest + "4" + nines(100) + "S", greatest}, {"PT000" + greatest + "000S", greatest},
		{"P11574074074074074074074074D", nines(26) + "3600"}, {"P11574074074074074074074074DT1H46M39." + nines(20) + "S", greatest}, {"PT277777777777777777777777777H", nines(26) + "7200"}, {"PT16666666666666666666666666666M", nines(28) + "60"}, {"PT16666666666666666666666666666M39." + nines(20) + "S", greatest},
	})
	checkSecondsError(t, api.ErrPlus,
		"PT1"+zeros(30)+"S", "-PT1"+zeros(30)+"S", "PT"+nines(31)+"S", "PT"+greatest+"5S", "-PT"+greatest+"5S", "PT"+greatest+"50000S", "PT"+greatest+nines(100)+"S", "PT1M"+greatest+"S", "P0DT0H1M"+nines(30)+"S", "PT1M"+nines(28)+"40S",
		"P11574074074074074074074074DT1H46M40S", "-P11574074074074074074074074DT1H46M40S", "P11574074074074074074074074DT1H46M39."+nines(20)+"5S", "P11574074074074074074074075D", "P"+nines(30)+"D", "P"+nines(31)+"D", "P1"+zeros(30)+"D", "PT277777777777777777777777778H", "PT"+nines(30)+"H", "PT1"+zeros(30)+"H", "PT16666666666666666666666666667M", "PT"+nines(30)+"M", "PT1"+zeros(30)+"M", "PT1"+zeros(30)+"M0S", "P1"+zeros(30)+"DT0S", "PT16666666666666666666666666666M40S",
		"P"+nines(198)+"D", "PT"+nines(197)+"H", "-PT"+nines(196)+"M", "PT"+nines(197)+"S", "PT"+nines(100)+"."+nines(96)+"S", long("P1", "D", 200), long("PT1", ".5S", 200), "P"+nines(45)+"DT"+nines(45)+"H"+nines(45)+"M"+nines(45)+"."+nines(10)+"S",
	)
	checkSecondsError(t, api.ErrLong,
		long("P", "D", 201), long("P", "1D", 201), long("PT", "1S", 201), long("PT1.", "S", 201), long("-P1DT", "0S", 201), long("P1", "D", 201), "PT"+nines(198)+"S", long("PT", "", 201), long("P", "S", 201), zeros(201), strings.Repeat("P", 201), strings.Repeat("-", 201), strings.Repeat("\xff", 201), strings.Repeat("\u0661", 101), strings.Repeat("PT1S", 1<<20), strings.Repeat(" ", 1<<20),
	)
}

// P6.4: canonical texts of seconds.
func TestTextSeconds(t *testing.T) {
	checkTextSeconds(t, [][2]string{
		{"0", "PT0S"}, {"1", "PT1S"}, {"9", "PT9S"}, {"10", "PT10S"}, {"59", "PT59S"}, {"60", "PT1M"}, {"61", "PT1M1S"}, {"119", "PT1M59S"}, {"120", "PT2M"}, {"3599", "PT59M59S"}, {"3600", "PT1H"}, {"3601", "PT1H1S"}, {"3660", "PT1H1M"}, {"3661", "PT1H1M1S"}, {"7200", "PT2H"}, {"86399", "PT23H59M59S"}, {"86400", "P1D"}, {"86401", "P1DT1S"}, {"86460", "P1DT1M"}, {"86461", "P1DT1M1S"}, {"90000", "P1DT1H"}, {"90001", "P1DT1H1S"}, {"90060", "P1DT1H1M"}, {"90061", "P1DT1H1M1S"}, {"172799", "P1DT23H59M59S"}, {"172800", "P2D"}, {"864000", "P10D"}, {"31536000", "P365D"}, {"1000000", "P11DT13H46M40S"}, {"4294967296", "P49710DT6H28M16S"}, {"18446744073709551616", "P213503982334601DT7H16S"},
		{"0.5", "PT0.5S"}, {"1.5", "PT1.5S"}, {"10.01", "PT10.01S"}, {"59.999", "PT59.999S"}, {"60.5", "PT1M0.5S"}, {"3600.001", "PT1H0.001S"}, {"86399.5", "PT23H59M59.5S"}, {"86400.1", "P1DT0.1S"}, {"90061.000001", "P1DT1H1M1.000001S"},
		{least, "PT" + least + "S"}, {"0." + nines(20), "PT0." + nines(20) + "S"}, {"59." + nines(20), "PT59." + nines(20) + "S"}, {"60." + zeros(19) + "1", "PT1M" + least + "S"}, {"86399." + nines(20), "PT23H59M59." + nines(20) + "S"}, {"86400." + zeros(19) + "1", "P1DT" + least + "S"},
		{"1" + zeros(29), "P1157407407407407407407407DT9H46M40S"}, {nines(30), "P11574074074074074074074074DT1H46M39S"}, {greatest, "P11574074074074074074074074DT1H46M39." + nines(20) + "S"}, {"8640" + zeros(26), "P1" + zeros(25) + "D"},
	})
}

// notCanonical returns strings that are no canonical texts of numbers.
func notCanonical() []string {
	return []string{
		"", "-", "+", ".", "-0", "-0.0", "0.0", "00", "01", "-01", "+1", "+0", "1.", ".5", "-.5", "1.0", "1.50", "-1.0", "--1", "1.2.3", "1e3", "1E3", "0x1", "1_000", " 1", "1 ", "1\n", "- 1", "a", "1a", "Inf", "NaN", "1/2", "P1D", "PT1S", "PT0S", "P", "1S",
		"\u0661", "1\uff11", "\u22121", "1\xff", "\xff", "1\x00",
		"1" + zeros(30), nines(31), "-" + nines(31), "0." + nines(21), "1." + zeros(20) + "1", "0." + zeros(20), zeros(31), greatest + "9", strings.Repeat("1", 200), strings.Repeat("1", 201), strings.Repeat("1", 1<<20), "1." + strings.Repeat("1", 1<<20), strings.Repeat("-", 1<<20),
	}
}

// P6.4: what is no canonical text of a number.
func TestTextSecondsErrors(t *testing.T) {
	for _, s := range notCanonical() {
		if got, e := dur.TextSeconds(s); got != "" || e != api.ErrArg {
			t.Errorf("TextSeconds of %d bytes %.60q: %q, %d", len(s), s, got, e)
		}
	}
}

// R5: equal calls return equal results, in several goroutines too.
func TestGoroutines(t *testing.T) {
	var group sync.WaitGroup
	for range 8 {
		group.Go(func() {
			for range 200 {
				if n, e := dur.ParseMonths("-P1Y2M"); n != -14 || e != api.OK {
					t.Error(n, e)
				}
				if s, e := dur.TextMonths(-14); s != "-P1Y2M" || e != api.OK {
					t.Error(s, e)
				}
				if s, e := dur.ParseSeconds("P1DT2H3M4.5S"); s != "93784.5" || e != api.OK {
					t.Error(s, e)
				}
				if s, e := dur.TextSeconds("93784.5"); s != "P1DT2H3M4.5S" || e != api.OK {
					t.Error(s, e)
				}
			}
		})
	}
	group.Wait()
}
