package time

import (
	"strconv"
	"strings"

	"chisel/api"
	"chisel/num"
)

// reading returns a function that reads a text from its beginning, part by part, and one that ends the reading. The first one is passed the forms that the next part can have, in which a 0 stands for any digit, and returns what has the first form that fits. Each of them gives up by a panic: the first one if no form fits, the other one if something is left.
func reading(text string) (read func(forms ...string) string, end func()) {
	read = func(forms ...string) string {
		for _, form := range forms {
			if part := text[:min(len(form), len(text))]; fits(part, form) {
				text = text[len(part):]
				return part
			}
		}
		panic(api.ErrForm)
	}
	end = func() {
		if text != "" {
			panic(api.ErrForm)
		}
	}
	return read, end
}

// fits reports whether s has a form: a 0 stands for any digit, everything else for itself.
func fits(s, form string) bool {
	if len(s) != len(form) {
		return false
	}
	for i := range len(s) {
		isDigit := s[i] >= '0' && s[i] <= '9'
		if s[i] != form[i] && (form[i] != '0' || !isDigit) {
			return false
		}
	}
	return true
}

// parts returns what the parts of a text of a kind say, which can be out of range, and its zone as it is written. It gives up by a panic if the text does not have the form of this kind.
func parts(kind int, s string) (m Moment, zone string) {
	read, end := reading(s)
	m = Moment{Year: 1972, Month: 12, Day: 31, Second: "0"}
	if kind != api.AtomTime {
		m.Year, m.Month, m.Day = number(read("0000")), number(read("-00")), number(read("-00"))
	}
	if kind == api.AtomMoment {
		read("T")
	}
	if kind != api.AtomDate {
		m.Hour, m.Minute = number(read("00")), number(read(":00"))
		whole := strings.TrimPrefix(read(":00"), ":")
		fraction := read(".000000", ".00000", ".0000", ".000", ".00", ".0", "")
		// A number with so few digits is never too large.
		m.Second, _ = num.Parse(whole + fraction)
	}
	zone = read("Z", "+00:00", "-00:00", "")
	end()
	return m, zone
}

// number returns the number of a part, which consists of one of the marks between numbers, or none, and of a few digits.
func number(part string) int {
	n, _ := strconv.Atoi(strings.TrimLeft(part, "-:"))
	return n
}

// inZone returns m with a zone as it is written, or without one if nothing is written; ok is false if its minutes are an hour or more.
func (m Moment) inZone(zone string) (in Moment, ok bool) {
	m.Has = zone != ""
	if zone == "" || zone == "Z" {
		return m, true
	}
	hours, minutes := number(zone[1:3]), number(zone[4:])
	m.Zone = 60*hours + minutes
	if zone[0] == '-' {
		m.Zone = -m.Zone
	}
	return m, minutes <= 59
}

// date returns the date of m as it is written.
func (m Moment) date() string {
	return digits(m.Year, 4) + "-" + digits(m.Month, 2) + "-" + digits(m.Day, 2)
}

// clock returns the time of m as it is written.
func (m Moment) clock() string {
	s := m.Second
	if whole, _, _ := strings.Cut(s, "."); len(whole) == 1 {
		s = "0" + s
	}
	return digits(m.Hour, 2) + ":" + digits(m.Minute, 2) + ":" + s
}

// zone returns the zone of m as it is written.
func (m Moment) zone() string {
	sign, minutes := "+", m.Zone
	switch {
	case !m.Has:
		return ""
	case minutes == 0:
		return "Z"
	case minutes < 0:
		sign, minutes = "-", -minutes
	}
	return sign + digits(minutes/60, 2) + ":" + digits(minutes%60, 2)
}

// digits returns n with so many digits, or more if it has more.
func digits(n, width int) string {
	s := strconv.Itoa(n)
	return strings.Repeat("0", max(width-len(s), 0)) + s
}
