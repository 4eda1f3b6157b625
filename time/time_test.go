package time_test

import (
	"math"
	"strings"
	"sync"
	"testing"

	"chisel/api"
	"chisel/time"
)

// The kinds.
const (
	date   = api.AtomDate
	clock  = api.AtomTime
	moment = api.AtomMoment
)

// kinds returns the three kinds.
func kinds() []int { return []int{date, clock, moment} }

// noKinds returns numbers that are none of the kinds.
func noKinds() []int {
	return []int{api.AtomUntyped, api.AtomString, api.AtomInteger, api.AtomDouble, api.AtomMonths, api.AtomSeconds, 11, -1, -date, 1 << 32, date + 1<<32, moment + 1<<8, math.MaxInt, math.MinInt}
}

// on returns a date without a zone.
func on(year, month, day int) time.Moment {
	return time.Moment{Year: year, Month: month, Day: day, Second: "0"}
}

// at returns a time without a zone.
func at(hour, minute int, second string) time.Moment {
	return clocked(on(1972, 12, 31), hour, minute, second)
}

// clocked returns m with this time.
func clocked(m time.Moment, hour, minute int, second string) time.Moment {
	m.Hour, m.Minute, m.Second = hour, minute, second
	return m
}

// zoned returns m with this zone.
func zoned(m time.Moment, zone int) time.Moment {
	m.Zone, m.Has = zone, true
	return m
}

// read returns the moment of a text that is one.
func read(t *testing.T, s string) time.Moment {
	t.Helper()
	kind := moment
	switch {
	case !strings.Contains(s, ":"), !strings.Contains(s, "T") && strings.Count(s, "-") > 1:
		kind = date
	case !strings.Contains(s, "T"):
		kind = clock
	}
	m, e := time.Parse(kind, s)
	if e != api.OK {
		t.Fatalf("Parse of %s: %d", s, e)
	}
	return m
}

// checkParse checks which moment Parse returns.
func checkParse(t *testing.T, kind int, s string, want time.Moment) {
	t.Helper()
	if got, e := time.Parse(kind, s); got != want || e != api.OK {
		t.Errorf("Parse of %d %s: %v, %d, not %v", kind, s, got, e, want)
	}
}

// checkParseError checks which error Parse returns for all of the texts.
func checkParseError(t *testing.T, kind int, want api.Errno, l ...string) {
	t.Helper()
	for _, s := range l {
		if got, e := time.Parse(kind, s); got != (time.Moment{}) || e != want {
			t.Errorf("Parse of %d, %d bytes %.60q: %v, %d, not %d", kind, len(s), s, got, e, want)
		}
	}
}

// checkText checks the canonical text of a moment.
func checkText(t *testing.T, kind int, m time.Moment, want string) {
	t.Helper()
	if got, e := time.Text(kind, m); got != want || e != api.OK {
		t.Errorf("Text of %d %v: %q, %d, not %s", kind, m, got, e, want)
	}
}

// checkSeconds checks the seconds of a text's moment.
func checkSeconds(t *testing.T, s, want string) {
	t.Helper()
	if got, e := time.Seconds(read(t, s)); got != want || e != api.OK {
		t.Errorf("Seconds of %s: %q, %d, not %s", s, got, e, want)
	}
}

// checkMoment checks the moment that a function returned without an error.
func checkMoment(t *testing.T, what string, want time.Moment) func(got time.Moment, e api.Errno) {
	return func(got time.Moment, e api.Errno) {
		t.Helper()
		if got != want || e != api.OK {
			t.Errorf("%s: %v, %d, not %v", what, got, e, want)
		}
	}
}

// checkError checks the error that a function returned.
func checkError(t *testing.T, what string, want api.Errno) func(got time.Moment, e api.Errno) {
	return func(got time.Moment, e api.Errno) {
		t.Helper()
		if got != (time.Moment{}) || e != want {
			t.Errorf("%s: %v, %d, not %d", what, got, e, want)
		}
	}
}

// The examples of the chapter.
func TestExamples(t *testing.T) {
	m := zoned(on(2026, 11, 17), -480)
	checkParse(t, moment, "2026-11-16T24:00:00.000-08:00", m)
	checkText(t, date, m, "2026-11-17-08:00")
	checkText(t, clock, m, "00:00:00-08:00")
	checkText(t, moment, m, "2026-11-17T00:00:00-08:00")
	checkParseError(t, date, api.ErrRange, "2026-02-29")
	checkParseError(t, date, api.ErrForm, "2026-2-28")
	checkSeconds(t, "1970-01-02T00:00:00+01:00", "82800")
	checkSeconds(t, "1969-12-31T23:59:59.5", "-0.5")
	checkMoment(t, "AddMonths of 1", on(2024, 2, 29))(time.AddMonths(on(2024, 1, 31), 1))
	checkMoment(t, "AddMonths of -12", on(2023, 2, 28))(time.AddMonths(on(2024, 2, 29), -12))
	checkMoment(t, "AddSeconds of 0.5", on(2024, 2, 29))(time.AddSeconds(clocked(on(2024, 2, 28), 23, 59, "59.5"), "0.5"))
	checkMoment(t, "Adjust to 60", zoned(clocked(on(2026, 11, 17), 5, 0, "0"), 60))(time.Adjust(zoned(clocked(on(2026, 11, 16), 20, 0, "0"), -480), 60, true))
	for _, m := range []time.Moment{on(2026, 11, 16), on(1, 1, 1)} {
		if n := time.Weekday(m); n != 1 {
			t.Errorf("Weekday of %v: %d", m, n)
		}
	}
}

// P7.1: dates.
func TestParseDate(t *testing.T) {
	for s, want := range map[string]time.Moment{
		"2026-11-16": on(2026, 11, 16), "0001-01-01": on(1, 1, 1), "9999-12-31": on(9999, 12, 31), "0010-10-10": on(10, 10, 10), "0987-06-05": on(987, 6, 5), "1582-10-10": on(1582, 10, 10), "2008-08-08": on(2008, 8, 8), "2009-09-09": on(2009, 9, 9),
		"2024-02-29": on(2024, 2, 29), "2000-02-29": on(2000, 2, 29), "0004-02-29": on(4, 2, 29), "0400-02-29": on(400, 2, 29), "2023-02-28": on(2023, 2, 28), "1900-02-28": on(1900, 2, 28),
		"2026-01-31": on(2026, 1, 31), "2026-03-31": on(2026, 3, 31), "2026-04-30": on(2026, 4, 30), "2026-05-31": on(2026, 5, 31), "2026-06-30": on(2026, 6, 30), "2026-07-31": on(2026, 7, 31), "2026-08-31": on(2026, 8, 31), "2026-09-30": on(2026, 9, 30), "2026-10-31": on(2026, 10, 31), "2026-11-30": on(2026, 11, 30), "2026-12-31": on(2026, 12, 31),
	} {
		checkParse(t, date, s, want)
		for zone, minutes := range zones() {
			checkParse(t, date, s+zone, zoned(want, minutes))
		}
	}
}

// zones returns zones as they are written, and their minutes.
func zones() map[string]int {
	return map[string]int{
		"Z": 0, "+00:00": 0, "-00:00": 0, "+00:01": 1, "-00:01": -1, "+00:59": 59, "-00:59": -59, "+01:00": 60, "-01:00": -60, "+05:30": 330, "-03:30": -210, "+08:09": 489, "-09:08": -548, "-12:34": -754, "+13:59": 839, "-13:59": -839, "+14:00": 840, "-14:00": -840,
	}
}

// badZones returns what has the form of a zone, but is none.
func badZones() []string {
	return []string{"+14:01", "-14:01", "+14:59", "+14:60", "+15:00", "-15:00", "+20:00", "+24:00", "+99:99", "-99:99", "+00:60", "-00:60", "+00:99", "+01:60", "+12:60", "-13:60", "+13:61", "+13:99"}
}

// noZones returns what does not have the form of a zone.
func noZones() []string {
	return []string{"z", "ZZ", "Z+00:00", "+00:00Z", "UTC", "GMT", "+", "-", "+0", "+00", "+0000", "+00:", "+00:0", "+0:00", "+00:000", "+000:00", "+00:00:00", "00:00", "+00-00", "+00.00", "-0000", "-14", "+1:00", "+01:0", "\u221201:00", "--01:00", "+-01:00", "+01:00-01:00", "+ 1:00", "+01: 0", "+01:00 ", " Z", "Z ", " ", "\n", "\x00", "\xff", "+0\u0661:00", "+\uff11\uff12:00"}
}

// P7.1: times.
func TestParseTime(t *testing.T) {
	for s, want := range map[string]time.Moment{
		"00:00:00": at(0, 0, "0"), "23:59:59": at(23, 59, "59"), "10:30:00": at(10, 30, "0"), "01:02:03": at(1, 2, "3"), "12:34:56": at(12, 34, "56"), "09:08:07": at(9, 8, "7"), "19:20:21": at(19, 20, "21"),
		"10:30:05.5": at(10, 30, "5.5"), "10:30:05.50": at(10, 30, "5.5"), "10:30:05.500000": at(10, 30, "5.5"), "10:30:05.0": at(10, 30, "5"), "10:30:50.000000": at(10, 30, "50"), "10:30:00.000001": at(10, 30, "0.000001"), "10:30:59.999999": at(10, 30, "59.999999"), "00:00:00.12": at(0, 0, "0.12"), "00:00:00.123": at(0, 0, "0.123"), "00:00:00.1234": at(0, 0, "0.1234"), "00:00:09.12345": at(0, 0, "9.12345"), "00:00:10.01": at(0, 0, "10.01"),
		"24:00:00": at(0, 0, "0"), "24:00:00.0": at(0, 0, "0"), "24:00:00.000000": at(0, 0, "0"),
	} {
		checkParse(t, clock, s, want)
		for zone, minutes := range zones() {
			checkParse(t, clock, s+zone, zoned(want, minutes))
		}
	}
}

// P7.1: dates with times.
func TestParseMoment(t *testing.T) {
	for s, want := range map[string]time.Moment{
		"2026-11-16T00:00:00": on(2026, 11, 16), "0001-01-01T00:00:00": on(1, 1, 1), "9999-12-31T23:59:59.999999": clocked(on(9999, 12, 31), 23, 59, "59.999999"), "2024-02-29T01:02:03.04": clocked(on(2024, 2, 29), 1, 2, "3.04"), "2026-11-16T20:30:40.5": clocked(on(2026, 11, 16), 20, 30, "40.5"),
		"2026-11-16T24:00:00": on(2026, 11, 17), "2026-11-16T24:00:00.00": on(2026, 11, 17), "2026-11-30T24:00:00": on(2026, 12, 1), "2026-12-31T24:00:00": on(2027, 1, 1), "2024-02-28T24:00:00": on(2024, 2, 29), "2024-02-29T24:00:00": on(2024, 3, 1), "2023-02-28T24:00:00": on(2023, 3, 1), "1900-02-28T24:00:00.000000": on(1900, 3, 1), "2000-02-28T24:00:00": on(2000, 2, 29), "0001-01-01T24:00:00": on(1, 1, 2), "9998-12-31T24:00:00": on(9999, 1, 1), "9999-12-30T24:00:00": on(9999, 12, 31),
	} {
		checkParse(t, moment, s, want)
		for zone, minutes := range zones() {
			checkParse(t, moment, s+zone, zoned(want, minutes))
		}
	}
}

// P7.1: what has none of the forms, whatever is out of range.
func TestParseForm(t *testing.T) {
	dates := []string{
		"", "2", "2026", "2026-11", "2026-11-", "2026-11-1", "2026-2-28", "2026-02-8", "2026-1-1", "202-11-16", "02026-11-16", "12026-11-16", "20261116", "2026-11-160", "2026-011-16", "-2026-11-16", "+2026-11-16", "-026-11-16", "26-11-16", "2026/11/16", "2026.11.16", "2026-11/16", "2026:11:16", "2026--1-16", "2026-+1-16", "2026-11--1", "2026-11-+1", "2026-1\u00b2-16", "2026-11-1x", "2026-11-16x", "2026-11-16T", "2026-11-16T00:00:00", "20 6-11-16", "2026-1 -16", "2026- 1-16", " 2026-11-16", "2026-11-16 ", "\t2026-11-16", "2026-11-16\n", "yyyy-mm-dd", "2026-Nov-16", "2026-11-16-", "2026-11-16Z-", "2026-W47-1", "2026-320", "0x7E-11-16", "2_26-11-16", "2026-1e-16", "2026-11-16\x00", "\xff026-11-16", "\u0662026-11-16", "\uff12026-11-16", "2026\u201311\u201316", "2026-11-1\xff", "2026\x00-11-16",
		"0000-0-00", "9999-99-9", "2026-02-30 ", "0000-00-00x", strings.Repeat("2026-11-16", 2), strings.Repeat("0", 1<<20), strings.Repeat("\xff", 1<<20), "2026-11-16" + strings.Repeat("Z", 1<<20),
	}
	times := []string{
		"", "1", "10", "10:", "10:30", "10:30:", "10:30:0", "1:30:00", "10:3:00", "010:30:00", "10:030:00", "10:30:000", "103000", "10-30-00", "10.30.00", "10:30.00", "10:30:5.0", "10:30:.5", "10:30:05.", "10:30:05.Z", "10:30:05.1234567", "10:30:05.0000000", "10:30:05,5", "10:30:05.5.5", "10:30:05.-5", "10:30:05.+5", "10:30:05.5e", "10:30:05e1", "10:30:05. 5", "10:30:05.5 ", "10:30:+5", "10:30:-5", "+1:30:00", "-10:30:00", "-1:30:00", "10:-3:00", " 1:30:00", "1 :30:00", " 10:30:00", "10:30:00 ", "10:30:00\n", "10:30:00AM", "10:30:00 PM", "T10:30:00", "10:30:00T", "hh:mm:ss", "10:30:00:00", "10:30:\u0660\u0660", "10:30:00.\u0661", "10:30:00\u00b75", "\xff0:30:00", "10:30:0\xff", "10:30:00.\xff", "10:30:00\x00", "10\u223630:00", "2026-11-16T10:30:00", "2026-11-16", "2026-11-16Z",
		"24:00:0", "24:00:00.", "24:00:00.0000000", "99:99:9", "99:99:99.", "99:99:99.9999999", "24:00", "10:30:60.", strings.Repeat("10:30:00", 2), "10:30:00." + strings.Repeat("0", 1<<20), strings.Repeat(":", 1<<20),
	}
	checkParseError(t, date, api.ErrForm, dates...)
	checkParseError(t, clock, api.ErrForm, times...)
	checkParseError(t, moment, api.ErrForm, "T", "2026-11-16T", "T10:30:00", "2026-11-16", "10:30:00", "2026-11-16Z", "2026-11-16 10:30:00", "2026-11-16t10:30:00", "2026-11-1610:30:00", "2026-11-16TT10:30:00", "2026-11-16T 10:30:00", "2026-11-16ZT10:30:00", "2026-11-16+01:00T10:30:00+01:00", "10:30:00T2026-11-16", "2026-11-16T10:30:00T", "20261116T103000", "2026-11-16_10:30:00", "0000-00-00T99:99:9", "9999-12-31T24:00:0")
	for _, s := range dates {
		checkParseError(t, moment, api.ErrForm, s+"T10:30:00")
	}
	for _, s := range times {
		checkParseError(t, moment, api.ErrForm, "2026-11-16T"+s)
	}
	for _, zone := range noZones() {
		checkParseError(t, date, api.ErrForm, "2026-11-16"+zone, "2026-02-30"+zone)
		checkParseError(t, clock, api.ErrForm, "10:30:00"+zone, "10:30:00.5"+zone, "24:00:01"+zone)
		checkParseError(t, moment, api.ErrForm, "2026-11-16T10:30:00"+zone, "2026-11-16T10:30:00.123456"+zone, "9999-12-31T24:00:00"+zone)
	}
}

// P7.1: what has a form, but is out of range.
func TestParseRange(t *testing.T) {
	dates := []string{
		"0000-01-01", "0000-12-31", "0000-02-29", "0000-00-00", "2026-00-01", "2026-13-01", "2026-99-01", "2026-20-10", "2026-01-00", "2026-01-32", "2026-01-99", "2026-02-29", "2026-02-30", "2024-02-30", "2024-02-31", "1900-02-29", "2100-02-29", "0100-02-29", "2000-02-30", "0001-02-29", "9999-02-29", "2026-03-32", "2026-04-31", "2026-05-32", "2026-06-31", "2026-07-32", "2026-08-32", "2026-09-31", "2026-10-32", "2026-11-31", "2026-12-32", "9999-99-99", "2026-12-00", "2026-00-00",
	}
	times := []string{
		"24:00:01", "24:01:00", "24:59:59", "24:00:00.1", "24:00:00.000001", "24:30:00.0", "24:00:60", "24:60:00", "25:00:00", "30:00:00", "99:00:00", "10:60:00", "10:99:00", "10:30:60", "10:30:60.0", "10:30:60.5", "10:30:61", "10:30:99", "23:59:60", "23:59:60.000001", "00:00:99.999999", "99:99:99", "99:99:99.999999",
	}
	checkParseError(t, date, api.ErrRange, dates...)
	checkParseError(t, clock, api.ErrRange, times...)
	checkParseError(t, moment, api.ErrRange, "9999-12-31T24:00:00", "9999-12-31T24:00:00.000000", "9999-12-31T24:00:00Z", "9999-12-31T24:00:00+14:00", "9999-12-31T24:00:00-14:00")
	for _, s := range dates {
		checkParseError(t, date, api.ErrRange, s+"Z", s+"-14:00", s+"+15:00")
		checkParseError(t, moment, api.ErrRange, s+"T00:00:00", s+"T10:30:00.5Z", s+"T24:00:00", s+"T24:00:00-05:00", s+"T99:99:99")
	}
	for _, s := range times {
		checkParseError(t, clock, api.ErrRange, s+"Z", s+"+14:00", s+"-00:60")
		checkParseError(t, moment, api.ErrRange, "2026-11-16T"+s, "9999-12-31T"+s, "2026-02-28T"+s+"Z", "2024-02-29T"+s+"-03:00", "0000-00-00T"+s)
	}
	for _, zone := range badZones() {
		checkParseError(t, date, api.ErrRange, "2026-11-16"+zone, "0001-01-01"+zone, "9999-12-31"+zone)
		checkParseError(t, clock, api.ErrRange, "10:30:00"+zone, "00:00:00.5"+zone, "24:00:00"+zone)
		checkParseError(t, moment, api.ErrRange, "2026-11-16T10:30:00"+zone, "2026-11-16T24:00:00"+zone)
	}
}

// P7.1: ErrArg comes first.
func TestParseKinds(t *testing.T) {
	for _, kind := range noKinds() {
		checkParseError(t, kind, api.ErrArg, "", "2026-11-16", "10:30:00", "2026-11-16T10:30:00Z", "2026-02-30", "24:00:01", "x", "\xff", strings.Repeat("0", 1<<20))
	}
}

// P7.2: canonical texts.
func TestText(t *testing.T) {
	for _, x := range []struct {
		m                   time.Moment
		date, clock, moment string
	}{
		{on(2026, 11, 16), "2026-11-16", "00:00:00", "2026-11-16T00:00:00"},
		{on(1, 1, 1), "0001-01-01", "00:00:00", "0001-01-01T00:00:00"},
		{on(12, 3, 4), "0012-03-04", "00:00:00", "0012-03-04T00:00:00"},
		{on(123, 10, 9), "0123-10-09", "00:00:00", "0123-10-09T00:00:00"},
		{clocked(on(9999, 12, 31), 23, 59, "59.999999"), "9999-12-31", "23:59:59.999999", "9999-12-31T23:59:59.999999"},
		{clocked(on(2024, 2, 29), 1, 2, "3"), "2024-02-29", "01:02:03", "2024-02-29T01:02:03"},
		{clocked(on(2000, 10, 20), 10, 20, "30"), "2000-10-20", "10:20:30", "2000-10-20T10:20:30"},
		{clocked(on(2000, 10, 20), 0, 0, "0.5"), "2000-10-20", "00:00:00.5", "2000-10-20T00:00:00.5"},
		{clocked(on(2000, 10, 20), 0, 0, "0.000001"), "2000-10-20", "00:00:00.000001", "2000-10-20T00:00:00.000001"},
		{clocked(on(2000, 10, 20), 9, 9, "9.25"), "2000-10-20", "09:09:09.25", "2000-10-20T09:09:09.25"},
		{clocked(on(2000, 10, 20), 9, 9, "10.01"), "2000-10-20", "09:09:10.01", "2000-10-20T09:09:10.01"},
		{at(10, 30, "0"), "1972-12-31", "10:30:00", "1972-12-31T10:30:00"},
	} {
		written := map[int]string{date: x.date, clock: x.clock, moment: x.moment}
		for kind, want := range written {
			checkText(t, kind, x.m, want)
		}
		for zone, want := range map[int]string{
			0: "Z", 1: "+00:01", -1: "-00:01", 59: "+00:59", -59: "-00:59", 60: "+01:00", -60: "-01:00", 61: "+01:01", -61: "-01:01", 330: "+05:30", -210: "-03:30", 600: "+10:00", 839: "+13:59", -839: "-13:59", 840: "+14:00", -840: "-14:00",
		} {
			for kind := range written {
				checkText(t, kind, zoned(x.m, zone), written[kind]+want)
			}
		}
	}
}

// changes returns changes after which no moment is valid.
func changes() []func(m *time.Moment) {
	var l []func(m *time.Moment)
	for _, n := range []int{0, -1, 10000, 10001, -2026, 1 << 32, math.MaxInt, math.MinInt} {
		l = append(l, func(m *time.Moment) { m.Year = n })
	}
	for _, n := range []int{0, -1, 13, 14, 24, 1<<32 + 1, math.MaxInt, math.MinInt} {
		l = append(l, func(m *time.Moment) { m.Month = n })
	}
	for _, n := range []int{0, -1, 32, 33, 99, 1<<32 + 1, math.MaxInt, math.MinInt} {
		l = append(l, func(m *time.Moment) { m.Day = n })
	}
	for _, month := range []int{4, 6, 9, 11} {
		l = append(l, func(m *time.Moment) { m.Month, m.Day = month, 31 })
	}
	l = append(l,
		func(m *time.Moment) { m.Year, m.Month, m.Day = 2023, 2, 29 },
		func(m *time.Moment) { m.Year, m.Month, m.Day = 1900, 2, 29 },
		func(m *time.Moment) { m.Year, m.Month, m.Day = 2024, 2, 30 },
		func(m *time.Moment) { m.Year, m.Month, m.Day = 2000, 2, 31 },
	)
	for _, n := range []int{-1, 24, 25, 1 << 32, math.MaxInt, math.MinInt} {
		l = append(l, func(m *time.Moment) { m.Hour = n })
	}
	for _, n := range []int{-1, 60, 61, 1 << 32, math.MaxInt, math.MinInt} {
		l = append(l, func(m *time.Moment) { m.Minute = n })
	}
	for _, s := range []string{"", "60", "60.5", "61", "100", "-1", "-0", "-0.5", "00", "01", "05", "5.0", "5.", ".5", "+5", "5.50", "0.0", "0.0000001", "59.9999999", "1.1234567", "5e0", " 5", "5 ", "five", "NaN", "0x5", "\u0665", "5\xff", "\xff", "5\x00", strings.Repeat("9", 30), strings.Repeat("9", 31), "1." + strings.Repeat("1", 20), "1." + strings.Repeat("1", 21), "1." + strings.Repeat("1", 1<<20), strings.Repeat("0", 1<<20)} {
		l = append(l, func(m *time.Moment) { m.Second = s })
	}
	for _, n := range []int{841, -841, 900, 1 << 32, math.MaxInt, math.MinInt} {
		l = append(l, func(m *time.Moment) { m.Zone, m.Has = n, true })
	}
	for _, n := range []int{1, -1, 60, 840, -840, 841, 1 << 32, math.MaxInt, math.MinInt} {
		l = append(l, func(m *time.Moment) { m.Zone, m.Has = n, false })
	}
	return append(l, func(m *time.Moment) { *m = time.Moment{} })
}

// notValid returns moments that are not valid.
func notValid() []time.Moment {
	var l []time.Moment
	for _, m := range []time.Moment{on(2026, 1, 16), zoned(clocked(on(2024, 1, 28), 23, 59, "59.5"), -480), zoned(clocked(on(1, 1, 1), 12, 0, "7"), 0), at(10, 30, "0")} {
		for _, change := range changes() {
			m := m
			change(&m)
			l = append(l, m)
		}
	}
	return l
}

// P7.2 to P7.7: what is not valid is refused first of all.
func TestNotValid(t *testing.T) {
	for _, m := range notValid() {
		for _, kind := range append(kinds(), noKinds()...) {
			if s, e := time.Text(kind, m); s != "" || e != api.ErrArg {
				t.Errorf("Text of %d %v: %q, %d", kind, m, s, e)
			}
		}
		if s, e := time.Seconds(m); s != "" || e != api.ErrArg {
			t.Errorf("Seconds of %v: %q, %d", m, s, e)
		}
		for _, n := range []int{0, 1, -1, 1 << 40, math.MaxInt, math.MinInt} {
			checkError(t, "AddMonths", api.ErrArg)(time.AddMonths(m, n))
		}
		for _, n := range []string{"0", "0.5", "-1", "1000000000000", "", "x", strings.Repeat("9", 31), strings.Repeat("0", 201)} {
			checkError(t, "AddSeconds", api.ErrArg)(time.AddSeconds(m, n))
		}
		for _, zone := range []int{0, 60, 840, 841} {
			checkError(t, "Adjust", api.ErrArg)(time.Adjust(m, zone, true))
			checkError(t, "Adjust", api.ErrArg)(time.Adjust(m, zone, false))
		}
		if n := time.Weekday(m); n != 0 {
			t.Errorf("Weekday of %v: %d", m, n)
		}
	}
}

// P7.2: kinds that have no text.
func TestTextKinds(t *testing.T) {
	for _, kind := range noKinds() {
		if s, e := time.Text(kind, on(2026, 11, 16)); s != "" || e != api.ErrArg {
			t.Errorf("Text of %d: %q, %d", kind, s, e)
		}
	}
}

// P7.3: seconds.
func TestSeconds(t *testing.T) {
	for s, want := range map[string]string{
		"1970-01-01T00:00:00": "0", "1970-01-01T00:00:00Z": "0", "1970-01-01T00:00:01": "1", "1970-01-01T00:01:00": "60", "1970-01-01T01:00:00": "3600", "1970-01-02T00:00:00": "86400", "1970-02-01T00:00:00": "2678400", "1971-01-01T00:00:00": "31536000", "1973-01-01T00:00:00": "94694400", "2000-01-01T00:00:00": "946684800", "2000-02-29T00:00:00": "951782400", "2000-03-01T00:00:00": "951868800", "2026-11-16T00:00:00": "1794787200", "2038-01-19T03:14:08": "2147483648", "2106-02-07T06:28:16": "4294967296",
		"1969-12-31T23:59:59": "-1", "1969-12-31T23:59:59.5": "-0.5", "1969-12-31T00:00:00": "-86400", "1969-12-31T23:59:59.999999": "-0.000001", "1969-12-31T23:59:00.000001": "-59.999999", "1900-01-01T00:00:00": "-2208988800", "0001-01-01T00:00:00": "-62135596800", "9999-12-31T23:59:59": "253402300799", "9999-12-31T23:59:59.999999": "253402300799.999999",
		"1970-01-01T00:00:00.25": "0.25", "1970-01-01T00:00:00.000001": "0.000001", "1970-01-01T00:00:10.5": "10.5", "2001-09-09T01:46:40.123456": "1000000000.123456",
		"1970-01-01T00:00:00+00:01": "-60", "1970-01-01T00:00:00-00:01": "60", "1970-01-01T00:00:00+14:00": "-50400", "1970-01-01T00:00:00-14:00": "50400", "1970-01-02T00:00:00+01:00": "82800", "1970-01-01T00:00:00.5+00:01": "-59.5", "0001-01-01T00:00:00+14:00": "-62135647200", "9999-12-31T23:59:59.999999-14:00": "253402351199.999999",
		"1970-01-01": "0", "1970-01-02Z": "86400", "1970-01-01+01:00": "-3600", "2026-11-16": "1794787200", "00:00:00": "94608000", "00:00:00Z": "94608000", "00:00:01.5": "94608001.5", "23:59:59": "94694399", "12:00:00+12:00": "94608000", "24:00:00": "94608000",
	} {
		checkSeconds(t, s, want)
	}
}

// P7.4: months later and earlier.
func TestAddMonths(t *testing.T) {
	for _, x := range []struct {
		from string
		n    int
		to   string
	}{
		{"2026-11-16", 0, "2026-11-16"}, {"2026-11-16", 1, "2026-12-16"}, {"2026-11-16", 2, "2027-01-16"}, {"2026-11-16", 3, "2027-02-16"}, {"2026-11-16", 14, "2028-01-16"}, {"2026-11-16", -1, "2026-10-16"}, {"2026-11-16", -10, "2026-01-16"}, {"2026-11-16", -11, "2025-12-16"}, {"2026-11-16", -23, "2024-12-16"}, {"2026-12-01", 12, "2027-12-01"}, {"2026-12-01", 1, "2027-01-01"}, {"2026-12-01", 0, "2026-12-01"}, {"2026-01-01", -1, "2025-12-01"}, {"2026-01-01", 11, "2026-12-01"},
		{"2024-01-31", 1, "2024-02-29"}, {"2023-01-31", 1, "2023-02-28"}, {"2024-01-29", 1, "2024-02-29"}, {"2023-01-29", 1, "2023-02-28"}, {"2024-01-30", 1, "2024-02-29"}, {"2024-01-31", 2, "2024-03-31"}, {"2024-01-31", 3, "2024-04-30"}, {"2024-01-31", 4, "2024-05-31"}, {"2024-01-31", 5, "2024-06-30"}, {"2024-01-31", 6, "2024-07-31"}, {"2024-01-31", 7, "2024-08-31"}, {"2024-01-31", 8, "2024-09-30"}, {"2024-01-31", 9, "2024-10-31"}, {"2024-01-31", 10, "2024-11-30"}, {"2024-01-31", 11, "2024-12-31"}, {"2024-03-31", -1, "2024-02-29"}, {"2023-03-30", -1, "2023-02-28"}, {"2024-05-31", -1, "2024-04-30"}, {"1899-12-31", 2, "1900-02-28"}, {"1999-12-31", 2, "2000-02-29"},
		{"2024-02-29", 12, "2025-02-28"}, {"2024-02-29", -12, "2023-02-28"}, {"2024-02-29", 48, "2028-02-29"}, {"2024-02-29", 1, "2024-03-29"}, {"2023-02-28", 12, "2024-02-28"}, {"1896-02-29", 48, "1900-02-28"}, {"2000-02-29", 1200, "2100-02-28"}, {"2000-02-29", 4800, "2400-02-29"}, {"2000-02-29", -4800, "1600-02-29"},
		{"0001-01-01", 119987, "9999-12-01"}, {"9999-12-01", -119987, "0001-01-01"}, {"0001-12-31", -11, "0001-01-31"}, {"0002-01-31", -12, "0001-01-31"}, {"9999-01-31", 11, "9999-12-31"}, {"9998-12-31", 12, "9999-12-31"}, {"0001-01-01", 11, "0001-12-01"}, {"0001-01-01", 12, "0002-01-01"},
		{"2026-11-16T23:59:59.999999+14:00", 1, "2026-12-16T23:59:59.999999+14:00"}, {"2026-01-31T12:34:56-05:00", 1, "2026-02-28T12:34:56-05:00"}, {"2026-11-16Z", 2, "2027-01-16Z"}, {"9999-12-31T23:59:59.5-14:00", 0, "9999-12-31T23:59:59.5-14:00"}, {"0001-01-01T00:00:00+14:00", 0, "0001-01-01T00:00:00+14:00"}, {"10:30:00.5", 2, "1973-02-28T10:30:00.5"},
	} {
		checkMoment(t, x.from+" and months", read(t, x.to))(time.AddMonths(read(t, x.from), x.n))
	}
}

// P7.4: years that do not exist.
func TestAddMonthsErrors(t *testing.T) {
	for _, x := range []struct {
		from string
		n    int
	}{
		{"0001-01-01", -1}, {"0001-12-31", -12}, {"0001-06-15", -6}, {"9999-12-01", 1}, {"9999-01-31", 12}, {"9999-06-15", 7}, {"0001-01-01", 119988}, {"9999-12-01", -119988}, {"2026-11-16", 95678}, {"2026-11-16", -24311}, {"2026-11-16", 1 << 31}, {"2026-11-16", -1 << 31}, {"2026-11-16", 1 << 32}, {"2026-11-16", 1 << 62},
		{"2026-11-16", math.MaxInt}, {"2026-11-16", math.MinInt}, {"9999-12-31", math.MaxInt}, {"9999-12-31", math.MinInt}, {"0001-01-01", math.MaxInt}, {"0001-01-01", math.MinInt}, {"9999-12-31", math.MaxInt - 119986}, {"0001-01-01", math.MinInt + 12}, {"2026-11-16T10:30:00Z", 9999 * 12},
	} {
		checkError(t, x.from+" and months", api.ErrRange)(time.AddMonths(read(t, x.from), x.n))
	}
	checkMoment(t, "the last month", on(9999, 12, 16))(time.AddMonths(on(2026, 11, 16), 95677))
	checkMoment(t, "the first month", on(1, 1, 16))(time.AddMonths(on(2026, 11, 16), -24310))
}

// P7.5: seconds later and earlier.
func TestAddSeconds(t *testing.T) {
	for _, x := range [][3]string{
		{"2026-11-16T10:30:00", "0", "2026-11-16T10:30:00"}, {"2026-11-16T10:30:00", "1", "2026-11-16T10:30:01"}, {"2026-11-16T10:30:00", "-1", "2026-11-16T10:29:59"}, {"2026-11-16T10:30:00", "60", "2026-11-16T10:31:00"}, {"2026-11-16T10:30:00", "3600", "2026-11-16T11:30:00"}, {"2026-11-16T10:30:00", "86400", "2026-11-17T10:30:00"}, {"2026-11-16T10:30:00", "-86400", "2026-11-15T10:30:00"}, {"2026-11-16T23:59:59", "1", "2026-11-17T00:00:00"}, {"2026-11-16T00:00:00", "-1", "2026-11-15T23:59:59"}, {"2026-12-31T23:59:59", "1", "2027-01-01T00:00:00"}, {"2027-01-01T00:00:00", "-0.000001", "2026-12-31T23:59:59.999999"}, {"2026-01-31T10:30:00", "2678400", "2026-03-03T10:30:00"}, {"2026-11-16T10:30:00", "31536000", "2027-11-16T10:30:00"},
		{"2024-02-28T23:59:59.5", "0.5", "2024-02-29T00:00:00"}, {"2023-02-28T23:59:59.5", "0.5", "2023-03-01T00:00:00"}, {"1900-02-28T23:59:59", "1", "1900-03-01T00:00:00"}, {"2000-02-28T23:59:59", "1", "2000-02-29T00:00:00"}, {"2000-03-01T00:00:00", "-0.5", "2000-02-29T23:59:59.5"}, {"1582-10-04T12:00:00", "86400", "1582-10-05T12:00:00"},
		{"2026-11-16T10:30:59.999999", "0.000001", "2026-11-16T10:31:00"}, {"2026-11-16T10:30:00.000001", "-0.000001", "2026-11-16T10:30:00"}, {"2026-11-16T10:30:09.75", "0.25", "2026-11-16T10:30:10"}, {"2026-11-16T10:30:09.75", "0.5", "2026-11-16T10:30:10.25"}, {"2026-11-16T10:30:00", "1.123456", "2026-11-16T10:30:01.123456"}, {"2026-11-16T10:30:00", "-1.123456", "2026-11-16T10:29:58.876544"},
		{"2026-11-16T10:30:00", "0.0000004", "2026-11-16T10:30:00"}, {"2026-11-16T10:30:00", "0.0000005", "2026-11-16T10:30:00"}, {"2026-11-16T10:30:00", "0.00000050000000000001", "2026-11-16T10:30:00.000001"}, {"2026-11-16T10:30:00", "0.0000015", "2026-11-16T10:30:00.000002"}, {"2026-11-16T10:30:00", "0.0000025", "2026-11-16T10:30:00.000002"}, {"2026-11-16T10:30:00", "-0.0000015", "2026-11-16T10:29:59.999998"}, {"2026-11-16T10:30:00", "-0.0000025", "2026-11-16T10:29:59.999998"}, {"2026-11-16T10:30:00", "-0.0000005", "2026-11-16T10:30:00"}, {"2026-11-16T10:30:00.000001", "0.0000005", "2026-11-16T10:30:00.000001"}, {"2026-11-16T10:30:00.000001", "0.9999995", "2026-11-16T10:30:01.000001"}, {"2026-11-16T10:30:00", "0.9999984999", "2026-11-16T10:30:00.999998"}, {"2026-11-16T10:30:00", "0.00000049999999999999999999", "2026-11-16T10:30:00"}, {"2026-11-16T10:30:00", "0.0000005000000000000001", "2026-11-16T10:30:00"},
		{"2026-11-16T10:30:00", "+1", "2026-11-16T10:30:01"}, {"2026-11-16T10:30:00", ".5", "2026-11-16T10:30:00.5"}, {"2026-11-16T10:30:00", "5.", "2026-11-16T10:30:05"}, {"2026-11-16T10:30:00", "-.50", "2026-11-16T10:29:59.5"}, {"2026-11-16T10:30:00", "0010", "2026-11-16T10:30:10"}, {"2026-11-16T10:30:00", "-0", "2026-11-16T10:30:00"}, {"2026-11-16T10:30:00", strings.Repeat("0", 199) + "9", "2026-11-16T10:30:09"},
		{"2026-11-16T20:00:00-08:00", "14400", "2026-11-17T00:00:00-08:00"}, {"2026-11-16T20:00:00+14:00", "14400.5", "2026-11-17T00:00:00.5+14:00"}, {"2026-11-16Z", "0.5", "2026-11-16T00:00:00.5Z"}, {"2026-11-16", "-1", "2026-11-15T23:59:59"}, {"23:59:59", "1", "1973-01-01T00:00:00"}, {"10:30:00+01:00", "-37800", "1972-12-31T00:00:00+01:00"},
		{"0001-01-01T00:00:00", "315537897599.999999", "9999-12-31T23:59:59.999999"}, {"9999-12-31T23:59:59.999999", "-315537897599.999999", "0001-01-01T00:00:00"}, {"0001-01-01T00:00:00", "315537897599.9999994", "9999-12-31T23:59:59.999999"}, {"0001-01-01T00:00:00+14:00", "0", "0001-01-01T00:00:00+14:00"}, {"9999-12-31T23:59:59.999999-14:00", "0.0000005", "9999-12-31T23:59:59.999999-14:00"}, {"0001-01-01T00:00:00", "-0.0000005", "0001-01-01T00:00:00"},
	} {
		checkMoment(t, x[0]+" and seconds "+x[1], read(t, x[2]))(time.AddSeconds(read(t, x[0]), x[1]))
	}
}

// P7.5: what is no number, and years that do not exist.
func TestAddSecondsErrors(t *testing.T) {
	for want, l := range map[api.Errno][]string{
		api.ErrForm:  {"", "-", "+", ".", "x", "1e3", "1 ", " 1", "--1", "1.2.3", "PT1S", "0x10", "1_0", "NaN", "INF", "\u0661", "\xff", "1\x00", strings.Repeat("x", 200)},
		api.ErrLong:  {strings.Repeat("0", 201), strings.Repeat("x", 201), strings.Repeat("9", 201), strings.Repeat("1", 1<<20), strings.Repeat("\xff", 1<<20), "0." + strings.Repeat("0", 199)},
		api.ErrPlus:  {strings.Repeat("9", 31), "-1" + strings.Repeat("0", 30), strings.Repeat("9", 200), strings.Repeat("9", 30) + "." + strings.Repeat("9", 21)},
		api.ErrRange: {"315537897600", "-315537897600", "1000000000000", "-1000000000000", "9223372036854", "9223372036854.775807", "9223372036854.775808", "-9223372036854.775808", "-9223372036854.775809", "9223372036855", "18446744073709.551616", "18446744073710", "9223372036854775807", "9223372036854775808", "-9223372036854775808", "18446744073709551616", "1" + strings.Repeat("0", 24), strings.Repeat("9", 24), "1" + strings.Repeat("0", 29), strings.Repeat("9", 30), "-" + strings.Repeat("9", 30), strings.Repeat("9", 30) + ".9999995", "-" + strings.Repeat("9", 30) + "." + strings.Repeat("9", 20)},
	} {
		for _, n := range l {
			for _, m := range []time.Moment{on(2026, 11, 16), on(1, 1, 1), zoned(clocked(on(9999, 12, 31), 23, 59, "59.999999"), -840), at(10, 30, "0")} {
				checkError(t, "AddSeconds of "+n[:min(len(n), 60)], want)(time.AddSeconds(m, n))
			}
		}
	}
	for _, x := range [][2]string{
		{"0001-01-01T00:00:00", "-1"}, {"0001-01-01T00:00:00", "-0.000001"}, {"0001-01-01T00:00:00", "-0.00000050000000000001"}, {"0001-01-01T00:00:00-14:00", "-0.5"}, {"0001-01-01T00:00:00+14:00", "-0.5"}, {"9999-12-31T23:59:59.999999", "0.000001"}, {"9999-12-31T23:59:59.999999", "0.00000050000000000001"}, {"9999-12-31T23:59:59", "1"}, {"9999-12-31T23:59:59+14:00", "1"}, {"9999-12-31T23:59:59-14:00", "1"}, {"9999-12-31", "86400"}, {"0001-01-01T00:00:00", "315537897599.9999995"}, {"2026-11-16T00:00:00", "251607513600"}, {"2026-11-16T00:00:00", "-63930384000.000001"},
	} {
		checkError(t, x[0]+" and seconds "+x[1], api.ErrRange)(time.AddSeconds(read(t, x[0]), x[1]))
	}
}

// P7.6: other zones.
func TestAdjust(t *testing.T) {
	for _, x := range []struct {
		from string
		zone int
		to   string
	}{
		{"2026-11-16T20:00:00-08:00", 60, "2026-11-17T05:00:00+01:00"}, {"2026-11-16T20:00:00-08:00", -480, "2026-11-16T20:00:00-08:00"}, {"2026-11-16T20:00:00-08:00", 0, "2026-11-17T04:00:00Z"}, {"2026-11-16T20:00:00Z", 840, "2026-11-17T10:00:00+14:00"}, {"2026-11-16T10:30:05.5Z", -840, "2026-11-15T20:30:05.5-14:00"}, {"2026-11-16T10:30:05.5+14:00", -840, "2026-11-15T06:30:05.5-14:00"}, {"2026-11-16T10:30:05.5-14:00", 840, "2026-11-17T14:30:05.5+14:00"}, {"2024-02-28T23:30:00Z", 30, "2024-02-29T00:00:00+00:30"}, {"2023-02-28T23:30:00Z", 30, "2023-03-01T00:00:00+00:30"}, {"2027-01-01T00:00:00+00:01", 0, "2026-12-31T23:59:00Z"}, {"2026-11-16T10:30:00+05:30", 345, "2026-11-16T10:45:00+05:45"},
		{"2026-11-16T20:00:00", 60, "2026-11-16T20:00:00+01:00"}, {"2026-11-16T20:00:00", 0, "2026-11-16T20:00:00Z"}, {"2026-11-16", -840, "2026-11-16-14:00"}, {"9999-12-31T23:59:59.999999", 840, "9999-12-31T23:59:59.999999+14:00"}, {"0001-01-01T00:00:00", -840, "0001-01-01T00:00:00-14:00"},
		{"0001-01-01T14:00:00+14:00", 0, "0001-01-01T00:00:00Z"}, {"0001-01-01T00:00:00+14:00", 840, "0001-01-01T00:00:00+14:00"}, {"0001-01-01T00:00:00Z", 1, "0001-01-01T00:01:00+00:01"}, {"9999-12-31T23:59:59.999999Z", -1, "9999-12-31T23:58:59.999999-00:01"}, {"9999-12-31T23:58:59.999999Z", 1, "9999-12-31T23:59:59.999999+00:01"}, {"10:30:00Z", -660, "1972-12-30T23:30:00-11:00"}, {"23:30:00Z", 60, "1973-01-01T00:30:00+01:00"}, {"10:30:00", 60, "10:30:00+01:00"},
	} {
		checkMoment(t, x.from+" in another zone", read(t, x.to))(time.Adjust(read(t, x.from), x.zone, true))
	}
	for from, to := range map[string]string{
		"2026-11-16T20:00:00-08:00": "2026-11-16T20:00:00", "2026-11-16T20:00:00": "2026-11-16T20:00:00", "2026-11-16Z": "2026-11-16", "10:30:00.5+14:00": "10:30:00.5", "0001-01-01T00:00:00+14:00": "0001-01-01T00:00:00", "9999-12-31T23:59:59.999999-14:00": "9999-12-31T23:59:59.999999",
	} {
		for _, zone := range []int{0, 60, 840, -840, 841, -841, 1 << 32, math.MaxInt, math.MinInt} {
			checkMoment(t, from+" without a zone", read(t, to))(time.Adjust(read(t, from), zone, false))
		}
	}
}

// P7.6: zones and years that do not exist.
func TestAdjustErrors(t *testing.T) {
	for _, s := range []string{"2026-11-16T20:00:00-08:00", "2026-11-16T20:00:00", "0001-01-01Z", "9999-12-31Z", "10:30:00"} {
		for _, zone := range []int{841, -841, 900, -900, 1440, 1 << 32, 1<<32 + 60, math.MaxInt, math.MinInt} {
			checkError(t, s+" in no zone", api.ErrArg)(time.Adjust(read(t, s), zone, true))
		}
	}
	for s, zone := range map[string]int{
		"0001-01-01T00:00:00Z": -1, "0001-01-01T13:59:59.999999Z": -840, "0001-01-01T00:00:00+00:01": 0, "0001-01-01T13:59:59+14:00": 0, "0001-01-02T03:59:59.999999+14:00": -840, "9999-12-31T23:59:00Z": 1, "9999-12-31T10:00:00Z": 840, "9999-12-31T23:59:00-00:01": 0, "9999-12-31T10:00:00-14:00": 0, "9999-12-30T20:00:00-14:00": 840,
	} {
		checkError(t, s+" in another zone", api.ErrRange)(time.Adjust(read(t, s), zone, true))
	}
}

// P7.7: days of the week, by the local date.
func TestWeekday(t *testing.T) {
	for s, want := range map[string]int{
		"2026-11-16": 1, "2026-11-17": 2, "2026-11-18": 3, "2026-11-19": 4, "2026-11-20": 5, "2026-11-21": 6, "2026-11-22": 7, "2026-11-23": 1, "0001-01-01": 1, "0001-01-02": 2, "0001-01-07": 7, "0001-01-08": 1, "1970-01-01": 4, "1972-12-31": 7, "2000-02-29": 2, "2000-03-01": 3, "1900-02-28": 3, "1900-03-01": 4, "1582-10-15": 5, "1582-10-04": 1, "9999-12-31": 5, "2024-12-31": 2, "2025-01-01": 3, "10:30:00": 7,
		"2026-11-16T23:59:59.999999": 1, "2026-11-16T00:00:00Z": 1, "2026-11-16T00:00:00+14:00": 1, "2026-11-16T00:30:00+01:00": 1, "2026-11-16T23:59:59-14:00": 1, "2026-11-16T24:00:00-14:00": 2,
	} {
		if n := time.Weekday(read(t, s)); n != want {
			t.Errorf("Weekday of %s: %d, not %d", s, n, want)
		}
	}
}

// R5: equal calls return equal results, in several goroutines too.
func TestGoroutines(t *testing.T) {
	var group sync.WaitGroup
	for range 8 {
		group.Go(func() {
			for range 200 {
				checkParse(t, moment, "2026-11-16T24:00:00.000-08:00", zoned(on(2026, 11, 17), -480))
				checkParseError(t, date, api.ErrForm, "2026-2-28")
				checkParseError(t, date, api.ErrRange, "2026-02-29")
				checkText(t, moment, on(2026, 11, 17), "2026-11-17T00:00:00")
				checkMoment(t, "AddSeconds", on(2024, 2, 29))(time.AddSeconds(clocked(on(2024, 2, 28), 23, 59, "59.5"), "0.5"))
				checkMoment(t, "AddMonths", on(2024, 2, 29))(time.AddMonths(on(2024, 1, 31), 1))
			}
		})
	}
	group.Wait()
}
