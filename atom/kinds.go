package atom

import (
	"strconv"

	"chisel/api"
	"chisel/dbl"
	"chisel/dur"
	"chisel/time"
)

// isKind reports whether this is a kind of values.
func isKind(kind int) bool {
	return kind >= api.AtomUntyped && kind <= api.AtomSeconds
}

// isString reports whether values of a kind are strings.
func isString(kind int) bool {
	return kind == api.AtomUntyped || kind == api.AtomString
}

// isExact reports whether values of a kind are exact numbers.
func isExact(kind int) bool {
	return kind == api.AtomInteger || kind == api.AtomDecimal
}

// isNumber reports whether values of a kind are numbers.
func isNumber(kind int) bool {
	return isExact(kind) || kind == api.AtomDouble
}

// isMoment reports whether values of a kind are moments.
func isMoment(kind int) bool {
	return kind == api.AtomDate || kind == api.AtomTime || kind == api.AtomMoment
}

// isDuration reports whether values of a kind are durations.
func isDuration(kind int) bool {
	return kind == api.AtomMonths || kind == api.AtomSeconds
}

// double returns the double of a number. Since it is valid, no function has an error here.
func double(a api.Atom) float64 {
	if a.Kind == api.AtomDouble {
		f, _ := dbl.Parse(a.Text)
		return f
	}
	f, _ := dbl.FromNum(a.Text)
	return f
}

// amount returns the number of an exact number, the seconds of a moment, or the months or seconds of a duration, as the canonical text of a number. Since the value is valid, no function has an error here.
func amount(a api.Atom) string {
	switch a.Kind {
	case api.AtomDate, api.AtomTime, api.AtomMoment:
		m, _ := time.Parse(a.Kind, a.Text)
		s, _ := time.Seconds(m)
		return s
	case api.AtomMonths:
		n, _ := dur.ParseMonths(a.Text)
		return strconv.Itoa(n)
	case api.AtomSeconds:
		s, _ := dur.ParseSeconds(a.Text)
		return s
	}
	return a.Text
}
