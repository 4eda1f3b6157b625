package time

import (
	"strconv"

	"chisel/api"
	"chisel/num"
)

// maxZone is the greatest number of minutes by which local time is ahead of universal time, or behind it.
const maxZone = 840

// fractionDigits is the greatest number of digits of a second after the point.
const fractionDigits = 6

// A local time is counted in microseconds, so that it is a whole number.
const (
	perSecond = 1_000_000
	perMinute = 60 * perSecond
	perHour   = 60 * perMinute
	perDay    = 24 * perHour
)

// isValid reports whether m is a moment.
func (m Moment) isValid() bool {
	switch {
	case m.Year < 1, m.Year > maxYear, m.Month < 1, m.Month > 12, m.Day < 1, m.Day > daysOf(m.Year, m.Month):
		return false
	case m.Hour < 0, m.Hour > 23, m.Minute < 0, m.Minute > 59, !isSecond(m.Second):
		return false
	case !m.Has:
		return m.Zone == 0
	}
	return isZone(m.Zone)
}

// isSecond reports whether s is the canonical text of a number of seconds within a minute.
func isSecond(s string) bool {
	low, e := num.Cmp(s, "0")
	if e != api.OK || low < 0 {
		return false
	}
	// s is a canonical text, so these have no errors.
	high, _ := num.Cmp(s, "60")
	cut, _ := num.Round(s, fractionDigits, "cut")
	return high < 0 && cut == s
}

// isZone reports whether a number of minutes can be a zone.
func isZone(zone int) bool {
	return zone >= -maxZone && zone <= maxZone
}

// local returns the microseconds from the beginning of the year 1 to the local time of m, which is valid.
func (m Moment) local() int {
	n, _ := microseconds(m.Second)
	return dayNumber(m.Year, m.Month, m.Day)*perDay + m.Hour*perHour + m.Minute*perMinute + n
}

// later returns the moment with the same zone whose local time is that many microseconds later than the one of m, which is valid; ErrRange if it has no year.
func (m Moment) later(n int) (Moment, api.Errno) {
	// n can be so great that a sum with it would wrap around.
	now, end := m.local(), daysBefore(maxYear+1)*perDay
	if n < -now || n >= end-now {
		return Moment{}, api.ErrRange
	}
	n += now
	m.Year, m.Month, m.Day = dateOf(n / perDay)
	m.Hour, m.Minute, m.Second = n%perDay/perHour, n%perHour/perMinute, seconds(n%perMinute)
	return m, api.OK
}

// microseconds returns how many microseconds a number of seconds is, rounded "even"; ok is false if they are too many to be counted. s is a canonical text.
func microseconds(s string) (n int, ok bool) {
	s, e := num.Round(s, fractionDigits, "even")
	if e != api.OK {
		return 0, false
	}
	if s, e = num.Mul(s, strconv.Itoa(perSecond)); e != api.OK {
		return 0, false
	}
	n, err := strconv.Atoi(s)
	if err != nil {
		return 0, false
	}
	return n, true
}

// seconds returns how many seconds a number of microseconds is, as a canonical text.
func seconds(n int) string {
	// The quotient is exact, and not too large.
	s, _ := num.Div(strconv.Itoa(n), strconv.Itoa(perSecond))
	return s
}
