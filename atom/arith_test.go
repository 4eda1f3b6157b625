package atom_test

import (
	"slices"
	"strings"
	"testing"

	"chisel/api"
	"chisel/atom"
)

// operators returns the ops of Arith.
func operators() []string { return []string{"+", "-", "*", "div", "idiv", "mod"} }

// P8.4: exact numbers, and the kinds of their results.
func TestArithExact(t *testing.T) {
	for _, x := range [][4]string{
		{"integer 1", "+", "integer 2", "integer 3"}, {"integer 1", "-", "integer 2", "integer -1"}, {"integer -3", "*", "integer 4", "integer -12"}, {"integer 6", "div", "integer 3", "decimal 2"}, {"integer 7", "idiv", "integer 2", "integer 3"}, {"integer 7", "mod", "integer 2", "integer 1"},
		{"integer 1", "+", "decimal 2", "decimal 3"}, {"decimal 1", "-", "integer 2", "decimal -1"}, {"decimal -3", "*", "decimal 4", "decimal -12"}, {"decimal 6", "div", "integer 3", "decimal 2"}, {"integer 7", "idiv", "decimal 2", "integer 3"}, {"decimal 7", "idiv", "integer 2", "integer 3"}, {"decimal 7", "idiv", "decimal 2", "integer 3"}, {"integer 7", "mod", "decimal 2", "decimal 1"}, {"decimal 7", "mod", "integer 2", "decimal 1"}, {"decimal 7", "mod", "decimal 2", "decimal 1"},
		{"decimal 0.1", "+", "decimal 0.2", "decimal 0.3"}, {"integer 1", "-", "decimal 0.5", "decimal 0.5"}, {"decimal 1.5", "+", "decimal 1.5", "decimal 3"}, {"decimal 0.5", "-", "decimal 0.5", "decimal 0"}, {"decimal -0.5", "*", "decimal 0.25", "decimal -0.125"}, {"decimal 0.5", "*", "integer 2", "decimal 1"}, {"decimal -0.5", "*", "integer 0", "decimal 0"}, {"decimal " + least, "*", "decimal 0.5", "decimal 0"}, {"decimal " + least, "*", "decimal 1.5", "decimal 0." + zeros(19) + "2"},
		{"integer 1", "div", "integer 4", "decimal 0.25"}, {"integer 1", "div", "integer 3", "decimal 0." + strings.Repeat("3", 20)}, {"integer 2", "div", "integer 3", "decimal 0." + strings.Repeat("6", 19) + "7"}, {"integer -7", "div", "decimal 0.5", "decimal -14"}, {"integer 0", "div", "integer -5", "decimal 0"},
		{"integer -7", "idiv", "integer 2", "integer -3"}, {"integer 7", "idiv", "integer -2", "integer -3"}, {"integer -7", "idiv", "integer -2", "integer 3"}, {"decimal 7.5", "idiv", "integer -2", "integer -3"}, {"decimal 0.5", "idiv", "integer 1", "integer 0"}, {"decimal -0.5", "idiv", "integer 1", "integer 0"}, {"decimal 0.9", "idiv", "decimal 0.1", "integer 9"},
		{"integer -7", "mod", "integer 2", "integer -1"}, {"integer 7", "mod", "integer -2", "integer 1"}, {"decimal 7.5", "mod", "integer -2", "decimal 1.5"}, {"integer 6", "mod", "integer 3", "integer 0"}, {"decimal 1.5", "mod", "decimal 0.5", "decimal 0"},
		{"integer " + nines(30), "-", "integer 1", "integer " + nines(29) + "8"}, {"integer 1" + zeros(29), "+", "integer 1", "integer 1" + zeros(28) + "1"}, {"integer 9007199254740992", "+", "integer 1", "integer 9007199254740993"}, {"integer 4294967296", "*", "integer 4294967296", "integer 18446744073709551616"}, {"integer 1" + zeros(29), "mod", "integer 7", "integer 5"},
	} {
		checkArith(t, x[0], x[1], x[2], x[3])
	}
}

// P8.4: exact numbers that are too large, or divided by 0.
func TestArithExactErrors(t *testing.T) {
	big, small := "integer "+nines(30), "integer -"+nines(30)
	for _, x := range [][3]string{
		{big, "+", "integer 1"}, {"integer 1", "+", big}, {small, "-", "integer 1"}, {big, "*", "integer 2"}, {small, "*", big}, {big, "div", "decimal 0.1"}, {big, "idiv", "decimal 0.1"}, {"decimal " + greatest, "+", "decimal " + least}, {"decimal -" + greatest, "-", "integer 1"}, {"decimal " + greatest, "*", "decimal 1.5"}, {big, "div", "decimal -" + least},
	} {
		checkArithError(t, x[0], x[1], x[2], api.ErrPlus)
	}
	for _, a := range []string{"integer 0", "integer 1", "decimal -1.5", big} {
		for _, op := range []string{"div", "idiv", "mod"} {
			for _, b := range []string{"integer 0", "decimal 0"} {
				checkArithError(t, a, op, b, api.ErrDiv)
			}
		}
	}
}

// P8.4: numbers of which one is a double.
func TestArithDouble(t *testing.T) {
	for _, x := range [][4]string{
		{"integer 1", "+", "double 0.5", "double 1.5"}, {"double 0.5", "+", "integer 1", "double 1.5"}, {"decimal 0.5", "-", "double 1", "double -0.5"}, {"double 2", "*", "decimal 1.5", "double 3"}, {"double 1", "div", "integer 4", "double 0.25"}, {"integer 7", "mod", "double 2", "double 1"}, {"double 1", "+", "double 2", "double 3"},
		{"double 0.1", "+", "double 0.2", "double 0.30000000000000004"}, {"decimal 0.1", "+", "double 0.2", "double 0.30000000000000004"}, {"integer 1", "div", "double 3", "double 0.3333333333333333"}, {"double 1.0E22", "+", "integer 1", "double 1.0E22"}, {"integer 9007199254740993", "-", "double 0", "double 9.007199254740992E15"}, {"double 1000", "*", "double 1000", "double 1.0E6"},
		{"double 1", "div", "integer 0", "double INF"}, {"double -1", "div", "double 0", "double -INF"}, {"integer 1", "div", "double -0", "double -INF"}, {"double 0", "div", "double 0", "double NaN"}, {"double INF", "-", "double INF", "double NaN"}, {"double INF", "*", "integer 0", "double NaN"}, {"double NaN", "+", "integer 1", "double NaN"}, {"double 1.5E300", "*", "double 1.5E300", "double INF"}, {"double -1.5E300", "*", "double 1.5E300", "double -INF"}, {"double 5.0E-324", "div", "integer 2", "double 0"}, {"double -5.0E-324", "div", "integer 2", "double -0"},
		{"double -0", "+", "integer 0", "double 0"}, {"double -0", "-", "integer 0", "double -0"}, {"double -0", "*", "integer 5", "double -0"}, {"integer 0", "*", "double -5", "double -0"}, {"double -0", "+", "double -0", "double -0"},
		{"double -5.5", "mod", "integer 2", "double -1.5"}, {"double 5.5", "mod", "integer -2", "double 1.5"}, {"integer -6", "mod", "double 3", "double -0"}, {"double 5", "mod", "double INF", "double 5"}, {"double 5", "mod", "integer 0", "double NaN"}, {"double INF", "mod", "integer 2", "double NaN"}, {"double 5", "mod", "double NaN", "double NaN"}, {"integer 5", "mod", "double -0", "double NaN"},
	} {
		checkArith(t, x[0], x[1], x[2], x[3])
	}
}

// P8.4: idiv of numbers of which one is a double.
func TestArithDoubleIDiv(t *testing.T) {
	for _, x := range [][3]string{
		{"integer 7", "double 2", "3"}, {"double 7", "integer 2", "3"}, {"double 7", "double 2", "3"}, {"double 7", "decimal 2", "3"}, {"decimal 7", "double 2", "3"}, {"double -7", "integer 2", "-3"}, {"double 7", "integer -2", "-3"}, {"integer -7", "double -2", "3"}, {"double 5.5", "decimal 1.5", "3"}, {"double 0.5", "integer 1", "0"}, {"double -0.5", "integer 1", "0"}, {"double -0", "integer 5", "0"}, {"double 0", "double -5", "0"}, {"double 5", "double INF", "0"}, {"double -5", "double INF", "0"}, {"integer 5", "double -INF", "0"},
		{"double 1.0E22", "integer 1", "10000000000000000000000"}, {"double 1.0E29", "double 1", "99999999999999991433150857216"}, {"double 5.0E-324", "integer 7", "0"}, {"double 1", "double 0.1", "10"}, {"double 0.9", "double 0.1", "9"}, {"integer 9007199254740993", "double 1", "9007199254740992"}, {"double 5.0E-324", "double 5.0E-324", "1"}, {"double 1.7976931348623157E308", "double 1.7976931348623157E308", "1"},
	} {
		checkArith(t, x[0], "idiv", x[1], "integer "+x[2])
	}
	for _, a := range []string{"double NaN", "double INF", "double -INF", "double 0", "double -0", "double 1.5", "integer 0", "integer 7", "decimal -0.5"} {
		for _, b := range []string{"double 0", "double -0", "integer 0", "decimal 0"} {
			checkArithError(t, a, "idiv", b, api.ErrDiv)
		}
		checkArithError(t, a, "idiv", "double NaN", api.ErrPlus)
	}
	for _, x := range [][2]string{
		{"double NaN", "integer 7"}, {"double INF", "integer 7"}, {"double -INF", "double -7"}, {"double INF", "double INF"}, {"double 1.0E30", "integer 1"}, {"double 1.5E300", "double 7"}, {"double 1.5E300", "double 5.0E-7"}, {"integer 1", "double 5.0E-324"}, {"integer " + nines(30), "double 1"}, {"integer " + nines(30), "double -0.5"},
	} {
		checkArithError(t, x[0], "idiv", x[1], api.ErrPlus)
	}
}

// P8.5: moments and moments.
func TestArithDifferences(t *testing.T) {
	for _, x := range [][3]string{
		{"date 2026-03-01", "date 2026-02-28", "P1D"}, {"date 2024-03-01", "date 2024-02-28", "P2D"}, {"date 2026-02-28", "date 2026-03-01", "-P1D"}, {"date 2026-11-16", "date 2026-11-16", "PT0S"}, {"date 2026-11-16Z", "date 2026-11-16+01:00", "PT1H"}, {"date 2026-11-16", "date 2026-11-16-14:00", "-PT14H"}, {"date 9999-12-31", "date 0001-01-01", "P3652058D"}, {"date 2026-11-16-00:01", "date 2026-11-16", "PT1M"},
		{"time 10:30:00", "time 09:08:07.06", "PT1H21M52.94S"}, {"time 00:00:00", "time 23:59:59.999999", "-PT23H59M59.999999S"}, {"time 10:30:00Z", "time 10:30:00+05:30", "PT5H30M"}, {"time 00:00:00-14:00", "time 00:00:00+14:00", "P1DT4H"},
		{"moment 2026-11-16T10:30:00Z", "moment 2026-11-15T10:30:00.000001Z", "PT23H59M59.999999S"}, {"moment 2026-11-16T02:30:00-08:00", "moment 2026-11-16T10:30:00Z", "PT0S"}, {"moment 9999-12-31T23:59:59.999999-14:00", "moment 0001-01-01T00:00:00+14:00", "P3652060DT3H59M59.999999S"}, {"moment 1969-12-31T23:59:59", "moment 1970-01-01T00:00:00", "-PT1S"},
	} {
		checkArith(t, x[0], "-", x[1], "seconds "+x[2])
	}
}

// P8.5: moments and durations, where x[1] is the op, and the sum is the same in the other order.
func TestArithMoments(t *testing.T) {
	for _, x := range [][4]string{
		{"date 2026-01-31", "+", "months P1M", "2026-02-28"}, {"date 2024-01-31Z", "+", "months P1M", "2024-02-29Z"}, {"date 2026-03-31", "-", "months P1M", "2026-02-28"}, {"date 2026-01-31", "+", "months -P1M", "2025-12-31"}, {"date 2026-01-31", "-", "months -P1M", "2026-02-28"}, {"date 2026-11-16+14:00", "+", "months P1Y2M", "2028-01-16+14:00"}, {"date 2024-02-29", "-", "months P1Y", "2023-02-28"}, {"date 2026-11-16", "+", "months P0M", "2026-11-16"}, {"date 2026-11-16", "-", "months P0M", "2026-11-16"}, {"date 0001-01-01", "+", "months P9998Y11M", "9999-12-01"},
		{"moment 2026-01-31T10:30:00.5-08:00", "+", "months P1M", "2026-02-28T10:30:00.5-08:00"}, {"moment 2026-01-31T10:30:00", "-", "months P2Y", "2024-01-31T10:30:00"}, {"moment 9999-11-30T23:59:59.999999", "+", "months P1M", "9999-12-30T23:59:59.999999"},
		{"date 2026-11-16", "+", "seconds P1D", "2026-11-17"}, {"date 2026-11-16", "+", "seconds PT23H59M59.999999S", "2026-11-16"}, {"date 2026-11-16", "+", "seconds -PT1S", "2026-11-15"}, {"date 2026-11-16", "-", "seconds PT0.000001S", "2026-11-15"}, {"date 2026-11-16", "-", "seconds PT0.0000005S", "2026-11-16"}, {"date 2026-11-16", "-", "seconds PT0.00000050000000000001S", "2026-11-15"}, {"date 2026-03-01+05:30", "-", "seconds P1D", "2026-02-28+05:30"}, {"date 9999-12-31", "+", "seconds PT23H59M59.999999S", "9999-12-31"}, {"date 2026-11-16-14:00", "+", "seconds P1DT12H", "2026-11-17-14:00"},
		{"time 10:30:00", "+", "seconds PT1H", "11:30:00"}, {"time 23:59:59.5", "+", "seconds PT0.5S", "00:00:00"}, {"time 00:00:00Z", "-", "seconds PT1S", "23:59:59Z"}, {"time 10:30:00-08:00", "+", "seconds P10D", "10:30:00-08:00"}, {"time 10:30:00", "-", "seconds P1DT1.25S", "10:29:58.75"}, {"time 10:30:00", "+", "seconds PT0.0000015S", "10:30:00.000002"}, {"time 10:30:00", "-", "seconds P700000D", "10:30:00"}, {"time 10:30:00", "+", "seconds PT0S", "10:30:00"},
		{"moment 2024-02-28T23:59:59.5Z", "+", "seconds PT0.5S", "2024-02-29T00:00:00Z"}, {"moment 2026-11-16T00:00:00+14:00", "-", "seconds PT0.000001S", "2026-11-15T23:59:59.999999+14:00"}, {"moment 0001-01-01T00:00:00", "+", "seconds P3652058DT23H59M59.999999S", "9999-12-31T23:59:59.999999"}, {"moment 2026-11-16T10:30:00", "-", "seconds -P1DT1H", "2026-11-17T11:30:00"},
	} {
		kind, _, _ := strings.Cut(x[0], " ")
		checkArith(t, x[0], x[1], x[2], kind+" "+x[3])
		if x[1] == "+" {
			checkArith(t, x[2], "+", x[0], kind+" "+x[3])
		} else {
			checkArithError(t, x[2], "-", x[0], api.ErrType)
		}
	}
}

// P8.5: moments that would be out of range.
func TestArithMomentsErrors(t *testing.T) {
	huge := "seconds P11574074074074074074074074DT1H46M39." + nines(20) + "S"
	for _, x := range [][3]string{
		{"date 9999-12-01", "+", "months P1M"}, {"date 0001-01-31", "-", "months P1M"}, {"date 2026-11-16", "+", "months P833333333Y3M"}, {"date 2026-11-16", "-", "months P833333333Y3M"}, {"date 2026-11-16", "+", "months -P833333333Y3M"}, {"moment 9999-01-01T00:00:00Z", "+", "months P1Y"}, {"moment 0001-12-31T23:59:59", "-", "months P1Y"},
		{"date 9999-12-31", "+", "seconds P1D"}, {"date 0001-01-01", "-", "seconds PT0.000001S"}, {"date 2026-11-16", "+", huge}, {"date 2026-11-16", "-", huge}, {"time 10:30:00", "+", huge}, {"time 10:30:00", "-", huge}, {"time 10:30:00", "-", "seconds P1000000D"}, {"time 10:30:00", "+", "seconds P10000000D"}, {"moment 9999-12-31T23:59:59.999999", "+", "seconds PT0.000001S"}, {"moment 0001-01-01T00:00:00+14:00", "-", "seconds PT1S"}, {"moment 2026-11-16T10:30:00", "+", huge},
	} {
		checkArithError(t, x[0], x[1], x[2], api.ErrRange)
		if x[1] == "+" {
			checkArithError(t, x[2], x[1], x[0], api.ErrRange)
		}
	}
}

// P8.5: durations and durations.
func TestArithDurations(t *testing.T) {
	for _, x := range [][4]string{
		{"months P1M", "+", "months P11M", "months P1Y"}, {"months P1Y", "-", "months P1M", "months P11M"}, {"months P1M", "-", "months P1Y", "months -P11M"}, {"months P1Y1M", "-", "months P1Y1M", "months P0M"}, {"months -P1M", "+", "months -P11M", "months -P1Y"}, {"months P833333333Y2M", "+", "months P1M", "months P833333333Y3M"}, {"months -P833333333Y2M", "-", "months P1M", "months -P833333333Y3M"}, {"months P833333333Y3M", "+", "months -P833333333Y3M", "months P0M"},
		{"seconds PT1S", "+", "seconds PT59S", "seconds PT1M"}, {"seconds PT1M", "-", "seconds PT0.5S", "seconds PT59.5S"}, {"seconds PT1S", "-", "seconds P1D", "seconds -PT23H59M59S"}, {"seconds P1D", "-", "seconds P1D", "seconds PT0S"}, {"seconds P1DT2H3M4.5S", "+", "seconds P1DT2H3M4.5S", "seconds P2DT4H6M9S"}, {"seconds PT" + least + "S", "+", "seconds PT0." + nines(20) + "S", "seconds PT1S"}, {"seconds -PT1S", "+", "seconds PT0S", "seconds -PT1S"},
		{"months P1Y", "div", "months P1M", "decimal 12"}, {"months P1M", "div", "months P1Y", "decimal 0.08333333333333333333"}, {"months -P1Y", "div", "months P5M", "decimal -2.4"}, {"months P0M", "div", "months P1M", "decimal 0"}, {"months P833333333Y3M", "div", "months -P833333333Y3M", "decimal -1"},
		{"seconds P1D", "div", "seconds PT1H", "decimal 24"}, {"seconds PT1S", "div", "seconds PT3S", "decimal 0." + strings.Repeat("3", 20)}, {"seconds PT0.5S", "div", "seconds -PT0.25S", "decimal -2"}, {"seconds PT0S", "div", "seconds PT" + least + "S", "decimal 0"},
	} {
		checkArith(t, x[0], x[1], x[2], x[3])
	}
	huge := "seconds P11574074074074074074074074DT1H46M39." + nines(20) + "S"
	checkArithError(t, "months P833333333Y3M", "+", "months P1M", api.ErrRange)
	checkArithError(t, "months -P833333333Y3M", "-", "months P1M", api.ErrRange)
	checkArithError(t, "months P833333333Y3M", "-", "months -P833333333Y3M", api.ErrRange)
	checkArithError(t, huge, "+", "seconds PT"+least+"S", api.ErrPlus)
	checkArithError(t, "seconds -PT1S", "-", huge, api.ErrPlus)
	checkArithError(t, huge, "div", "seconds PT0.5S", api.ErrPlus)
	checkArithError(t, "months P1M", "div", "months P0M", api.ErrDiv)
	checkArithError(t, "seconds PT1S", "div", "seconds PT0S", api.ErrDiv)
	checkArithError(t, "months P0M", "div", "months P0M", api.ErrDiv)
}

// P8.5: durations and numbers.
func TestArithScaled(t *testing.T) {
	for _, x := range [][4]string{
		{"months P1M", "*", "integer 14", "P1Y2M"}, {"months P1M", "*", "decimal 1.5", "P2M"}, {"months P1M", "*", "decimal 1.25", "P1M"}, {"months P1M", "*", "decimal 2.5", "P3M"}, {"months P1M", "*", "decimal 3.5", "P4M"}, {"months -P1M", "*", "decimal 1.5", "-P1M"}, {"months -P1M", "*", "decimal 2.5", "-P2M"}, {"months -P1M", "*", "decimal 1.75", "-P2M"}, {"months P1M", "*", "decimal -0.5", "P0M"}, {"months P1M", "*", "decimal 0.5", "P1M"}, {"months P1M", "*", "double 1.5", "P2M"}, {"months P1Y", "*", "double 0.1", "P1M"}, {"months P5M", "*", "integer 0", "P0M"}, {"months P1M", "*", "double -0", "P0M"}, {"months P1M", "*", "integer -1", "-P1M"}, {"months P1M", "*", "integer 9999999999", "P833333333Y3M"}, {"months P1M", "*", "decimal 9999999999.4" + nines(15), "P833333333Y3M"}, {"months P0M", "*", "integer " + nines(30), "P0M"}, {"months P1M", "*", "decimal " + least, "P0M"},
		{"months P1Y", "div", "integer 5", "P2M"}, {"months P5M", "div", "integer 2", "P3M"}, {"months -P5M", "div", "integer 2", "-P2M"}, {"months P3M", "div", "integer 2", "P2M"}, {"months P1M", "div", "integer 3", "P0M"}, {"months P1M", "div", "double 0.1", "P10M"}, {"months P1Y", "div", "decimal -0.5", "-P2Y"}, {"months P0M", "div", "double 5", "P0M"}, {"months P1M", "div", "double 0.5", "P2M"},
		{"seconds PT1S", "*", "integer 90", "PT1M30S"}, {"seconds PT1M", "*", "decimal 1.5", "PT1M30S"}, {"seconds P1D", "*", "double 0.5", "PT12H"}, {"seconds PT1S", "*", "double 0.1", "PT0.10000000000000000555S"}, {"seconds PT1S", "*", "integer -1", "-PT1S"}, {"seconds PT1S", "*", "double -0", "PT0S"}, {"seconds PT0.5S", "*", "decimal 0.5", "PT0.25S"}, {"seconds PT" + least + "S", "*", "decimal 0.5", "PT0S"}, {"seconds PT" + least + "S", "*", "decimal 1.5", "PT0." + zeros(19) + "2S"}, {"seconds PT1S", "*", "integer " + nines(30), "P11574074074074074074074074DT1H46M39S"}, {"seconds P1DT2H3M4.5S", "*", "integer 2", "P2DT4H6M9S"},
		{"seconds PT1M30S", "div", "integer 4", "PT22.5S"}, {"seconds PT1S", "div", "integer 3", "PT0." + strings.Repeat("3", 20) + "S"}, {"seconds PT1S", "div", "double 0.5", "PT2S"}, {"seconds P1D", "div", "decimal -0.25", "-P4D"}, {"seconds PT2S", "div", "double 0.1", "PT19.99999999999999889S"},
	} {
		kind, _, _ := strings.Cut(x[0], " ")
		checkArith(t, x[0], x[1], x[2], kind+" "+x[3])
		if x[1] == "*" {
			checkArith(t, x[2], "*", x[0], kind+" "+x[3])
		} else {
			checkArithError(t, x[2], x[1], x[0], api.ErrType)
		}
	}
}

// P8.5: durations and numbers whose result does not exist.
func TestArithScaledErrors(t *testing.T) {
	huge := "seconds P11574074074074074074074074DT1H46M39." + nines(20) + "S"
	for _, d := range []string{"months P1M", "months P0M", "seconds PT1S", "seconds PT0S", huge} {
		for _, n := range []string{"double NaN", "double INF", "double -INF", "double 1.0E30", "double -1.5E300"} {
			checkArithError(t, d, "*", n, api.ErrCast)
			checkArithError(t, d, "div", n, api.ErrCast)
			checkArithError(t, n, "*", d, api.ErrCast)
		}
		for _, n := range []string{"integer 0", "decimal 0", "double 0", "double -0", "double 1.0E-21"} {
			checkArithError(t, d, "div", n, api.ErrDiv)
		}
	}
	for _, x := range []struct {
		d, op, n string
		e        api.Errno
	}{
		{"months P1M", "*", "integer 10000000000", api.ErrRange}, {"months P1M", "*", "integer -10000000000", api.ErrRange}, {"months P1M", "*", "decimal 9999999999.5", api.ErrRange}, {"months P833333333Y3M", "*", "integer 2", api.ErrRange}, {"months P1M", "*", "integer 9223372036854775807", api.ErrRange}, {"months P1M", "*", "integer 9223372036854775808", api.ErrRange}, {"months -P1M", "*", "integer 9223372036854775809", api.ErrRange}, {"months P1M", "*", "integer 18446744073709551616", api.ErrRange}, {"months P1M", "*", "integer 18446744073709551617", api.ErrRange}, {"months P1M", "*", "integer " + nines(30), api.ErrRange}, {"months P1M", "div", "decimal " + least, api.ErrRange}, {"months P1M", "*", "double 1.0E22", api.ErrRange},
		{"months P2M", "*", "integer " + nines(30), api.ErrPlus}, {"months P833333333Y3M", "div", "decimal -" + least, api.ErrRange}, {"months P1M", "*", "decimal " + greatest, api.ErrPlus}, {"months -P1M", "*", "decimal " + nines(30) + ".5", api.ErrRange}, {"months P1M", "*", "decimal " + nines(30) + ".5", api.ErrPlus},
		{"seconds PT2S", "*", "integer " + nines(30), api.ErrPlus}, {huge, "div", "decimal 0.5", api.ErrPlus}, {huge, "*", "double -1.5", api.ErrPlus}, {huge, "div", "double 1.0E-20", api.ErrPlus},
	} {
		checkArithError(t, x.d, x.op, x.n, x.e)
		if x.op == "*" {
			checkArithError(t, x.n, x.op, x.d, x.e)
		}
	}
}

// arithKinds has all that can be computed, by kinds: the first value, the op, the second one, and the kind of the result.
var arithKinds = allArithKinds()

func allArithKinds() []string {
	var l []string
	add := func(a, ops, b, result string) {
		for _, op := range strings.Fields(ops) {
			l = append(l, a+" "+op+" "+b+" "+result)
		}
	}
	add("integer", "+ - * idiv mod", "integer", "integer")
	add("integer", "div", "integer", "decimal")
	for _, x := range [][2]string{{"integer", "decimal"}, {"decimal", "integer"}, {"decimal", "decimal"}} {
		add(x[0], "+ - * div mod", x[1], "decimal")
		add(x[0], "idiv", x[1], "integer")
	}
	for _, x := range [][2]string{{"integer", "double"}, {"decimal", "double"}, {"double", "integer"}, {"double", "decimal"}, {"double", "double"}} {
		add(x[0], "+ - * div mod", x[1], "double")
		add(x[0], "idiv", x[1], "integer")
	}
	for _, moment := range []string{"date", "time", "moment"} {
		add(moment, "-", moment, "seconds")
		add(moment, "+ -", "seconds", moment)
		add("seconds", "+", moment, moment)
		if moment != "time" {
			add(moment, "+ -", "months", moment)
			add("months", "+", moment, moment)
		}
	}
	for _, duration := range []string{"months", "seconds"} {
		add(duration, "+ -", duration, duration)
		add(duration, "div", duration, "decimal")
		for _, number := range []string{"integer", "decimal", "double"} {
			add(duration, "* div", number, duration)
			add(number, "*", duration, duration)
		}
	}
	return l
}

// P8.4, P8.5: what can be computed, and the kinds of the results; all other values cannot.
func TestArithKinds(t *testing.T) {
	found := map[string]bool{}
	for _, a := range values() {
		for _, b := range values() {
			for _, op := range operators() {
				got, e := atom.Arith(op, a, b)
				what := names()[a.Kind] + " " + op + " " + names()[b.Kind]
				i := slices.IndexFunc(arithKinds, func(s string) bool { return strings.HasPrefix(s, what+" ") })
				switch {
				case i < 0 && (e != api.ErrType || got != api.Atom{}):
					t.Fatalf("%v %s %v: %v, %d", a, op, b, got, e)
				case i >= 0 && e == api.ErrType, i >= 0 && e == api.ErrArg, e != api.OK && got != api.Atom{}:
					t.Fatalf("%v %s %v: %v, %d", a, op, b, got, e)
				case e == api.OK && arithKinds[i] != what+" "+names()[got.Kind]:
					t.Fatalf("%v %s %v: %v", a, op, b, got)
				}
				found[what] = found[what] || e == api.OK
			}
		}
	}
	for _, s := range arithKinds {
		if what := s[:strings.LastIndex(s, " ")]; !found[what] {
			t.Errorf("%s: no result", what)
		}
	}
}

// P8.4, P8.5: values that are not valid, and ops that do not exist, come before everything else.
func TestArithArguments(t *testing.T) {
	for _, a := range notValid() {
		for _, b := range []api.Atom{a, v("string a"), v("integer 0"), v("double NaN"), v("date 2026-11-16"), v("months P1M"), v("seconds PT0S"), {Kind: a.Kind, Text: "\xff"}} {
			for _, op := range operators() {
				got, e := atom.Arith(op, a, b)
				back, f := atom.Arith(op, b, a)
				if got != (api.Atom{}) || back != (api.Atom{}) || e != api.ErrArg || f != api.ErrArg {
					t.Errorf("%d %.80q %s %v: %v, %d, %v, %d", a.Kind, a.Text, op, b, got, e, back, f)
				}
			}
		}
	}
	for _, op := range []string{"", "/", "%", "//", "DIV", "Mod", " +", "+ ", "++", "+-", "idivmod", "eq", "lt", "neg", "\u2212", "\u00d7", "\xff", "-1"} {
		for _, b := range values() {
			for _, a := range []api.Atom{b, v("integer 1"), v("string a"), v("integer 01")} {
				if got, e := atom.Arith(op, a, b); got != (api.Atom{}) || e != api.ErrArg {
					t.Errorf("%v %q %v: %v, %d", a, op, b, got, e)
				}
			}
		}
	}
}

// P8.6: numbers with the other sign.
func TestNeg(t *testing.T) {
	for _, x := range [][2]string{
		{"integer 0", "integer 0"}, {"integer 1", "integer -1"}, {"integer -7", "integer 7"}, {"integer " + nines(30), "integer -" + nines(30)},
		{"decimal 0", "decimal 0"}, {"decimal 1", "decimal -1"}, {"decimal -0.5", "decimal 0.5"}, {"decimal " + greatest, "decimal -" + greatest}, {"decimal -" + least, "decimal " + least},
		{"double 0", "double -0"}, {"double -0", "double 0"}, {"double 1", "double -1"}, {"double -1.5E300", "double 1.5E300"}, {"double 5.0E-324", "double -5.0E-324"}, {"double INF", "double -INF"}, {"double -INF", "double INF"}, {"double NaN", "double NaN"}, {"double -0.1", "double 0.1"},
	} {
		if got, e := atom.Neg(v(x[0])); got != v(x[1]) || e != api.OK {
			t.Errorf("Neg of %s: %v, %d", x[0], got, e)
		}
	}
	for _, a := range values() {
		switch names()[a.Kind] {
		case "integer", "decimal", "double":
			continue
		}
		if got, e := atom.Neg(a); got != (api.Atom{}) || e != api.ErrType {
			t.Errorf("Neg of %v: %v, %d", a, got, e)
		}
	}
	for _, a := range notValid() {
		if got, e := atom.Neg(a); got != (api.Atom{}) || e != api.ErrArg {
			t.Errorf("Neg of %d %.80q: %v, %d", a.Kind, a.Text, got, e)
		}
	}
}

// P8.7: values that are the same key, as all in one row are, and those of two rows are not.
func TestSame(t *testing.T) {
	rows := []string{
		"untyped |string ", "untyped a|string a", "string A", "string  a|untyped  a", "string é", "string e\u0301", "untyped 0|string 0", "string -0", "untyped 1|string 1", "string NaN", "string true", "string 2026-11-16", "string P1M",
		"bool true", "bool false",
		"integer 0|decimal 0|double 0|double -0", "integer 1|decimal 1|double 1", "integer -7|decimal -7|double -7", "decimal 0.5|double 0.5", "decimal 0.1", "double 0.1|decimal 0.10000000000000000555", "decimal -1.5|double -1.5", "integer 1000000|double 1.0E6|decimal 1000000", "integer 9007199254740992|double 9.007199254740992E15", "integer 9007199254740993", "integer 9007199254740994|double 9.007199254740994E15|decimal 9007199254740994", "decimal " + least + "|double 1.0E-20", "integer " + nines(30) + "|decimal " + nines(30), "double 1.0E30", "decimal " + greatest, "integer 99999999999999991433150857216|double 1.0E29", "integer 1" + zeros(29),
		"double 1.0E-21", "double -1.0E-21", "double 5.0E-324", "double -5.0E-324", "double 1.5E-20", "double 1.5E300", "double INF", "double -INF", "double NaN", "decimal -0.5|double -0.5", "decimal 0.3", "double 0.30000000000000004|decimal 0.30000000000000004441", "decimal 0.30000000000000004",
		"date 2026-11-16", "date 2026-11-16Z", "date 2026-11-16+14:00", "date 2026-11-17+12:00", "date 2026-11-16-12:00", "time 10:30:00", "time 10:30:00Z", "time 11:30:00+01:00", "moment 2026-11-16T00:00:00", "moment 2026-11-16T00:00:00Z", "moment 2026-11-16T14:00:00+14:00", "time 00:00:00",
		"months P0M", "months P1Y", "months -P1Y", "seconds PT0S", "seconds P1D", "seconds -P1D", "seconds PT1S", "seconds PT1." + zeros(19) + "1S",
	}
	for i, some := range rows {
		for k, others := range rows {
			for _, a := range strings.Split(some, "|") {
				for _, b := range strings.Split(others, "|") {
					checkSame(t, a, b, i == k)
				}
			}
		}
	}
}

// P8.7: values that are not valid are no keys.
func TestSameNotValid(t *testing.T) {
	for _, a := range notValid() {
		for _, b := range []api.Atom{a, v("string " + a.Text), {Kind: api.AtomInteger, Text: "1"}, {Kind: api.AtomDouble, Text: "NaN"}, {Kind: api.AtomDouble, Text: "0"}} {
			if atom.Same(a, b) || atom.Same(b, a) {
				t.Errorf("Same of %d %.80q and %v", a.Kind, a.Text, b)
			}
		}
	}
	for _, a := range values() {
		if !atom.Same(a, a) {
			t.Errorf("Same of %v and itself", a)
		}
	}
}
