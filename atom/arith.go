package atom

import (
	"strconv"

	"chisel/api"
	"chisel/dbl"
	"chisel/dur"
	"chisel/num"
	"chisel/time"
)

// operation returns what an operator does with exact numbers, or nil if there is no such operator.
func operation(op string) func(a, b string) (string, api.Errno) {
	switch op {
	case "+":
		return num.Add
	case "-":
		return num.Sub
	case "*":
		return num.Mul
	case "div":
		return num.Div
	case "idiv":
		return num.IDiv
	case "mod":
		return num.Mod
	}
	return nil
}

// withExact computes with two exact numbers.
func withExact(op string, a, b api.Atom) (api.Atom, api.Errno) {
	kind := api.AtomDecimal
	if op == "idiv" || op != "div" && a.Kind == api.AtomInteger && b.Kind == api.AtomInteger {
		kind = api.AtomInteger
	}
	s, e := operation(op)(a.Text, b.Text)
	return made(kind, s, e)
}

// withDoubles computes with the doubles of two numbers.
func withDoubles(op string, a, b api.Atom) (api.Atom, api.Errno) {
	x, y := double(a), double(b)
	if op != "idiv" {
		f, _ := dbl.Op(op, x, y)
		s, e := writeDouble(f)
		return made(api.AtomDouble, s, e)
	}
	if y == 0 {
		return api.Atom{}, api.ErrDiv
	}
	quotient, _ := dbl.Op("div", x, y)
	s, e := dbl.ToNum(quotient)
	if e != api.OK {
		// Also where ToNum has another error.
		return api.Atom{}, api.ErrPlus
	}
	s, e = cut(s)
	return made(api.AtomInteger, s, e)
}

// withMoment computes with two values of which one is a moment.
func withMoment(op string, a, b api.Atom) (api.Atom, api.Errno) {
	switch {
	case op == "-" && a.Kind == b.Kind:
		n, e := num.Sub(amount(a), amount(b))
		return duration(api.AtomSeconds, n, e)
	case op == "+" && isDuration(a.Kind):
		return shifted(op, b, a)
	case (op == "+" || op == "-") && isDuration(b.Kind):
		return shifted(op, a, b)
	}
	return api.Atom{}, api.ErrType
}

// shifted returns a moment that is later by a duration, or earlier if op is a minus sign.
func shifted(op string, moment, by api.Atom) (api.Atom, api.Errno) {
	// Both values are valid, so neither reading nor negating them has an error.
	m, _ := time.Parse(moment.Kind, moment.Text)
	n := amount(by)
	if op == "-" {
		n, _ = num.Neg(n)
	}
	e := api.ErrType
	switch {
	case by.Kind == api.AtomSeconds:
		m, e = time.AddSeconds(m, n)
	case moment.Kind != api.AtomTime:
		months, _ := strconv.Atoi(n)
		m, e = time.AddMonths(m, months)
	}
	if e != api.OK {
		return api.Atom{}, e
	}
	s, e := time.Text(moment.Kind, m)
	return made(moment.Kind, s, e)
}

// withDuration computes with two values of which one is a duration, and none is a moment.
func withDuration(op string, a, b api.Atom) (api.Atom, api.Errno) {
	alike := a.Kind == b.Kind
	switch {
	case alike && (op == "+" || op == "-"):
		n, e := operation(op)(amount(a), amount(b))
		return duration(a.Kind, n, e)
	case alike && op == "div":
		s, e := num.Div(amount(a), amount(b))
		return made(api.AtomDecimal, s, e)
	case isNumber(b.Kind) && (op == "*" || op == "div"):
		return scaled(op, a, b)
	case isNumber(a.Kind) && op == "*":
		return scaled(op, b, a)
	}
	return api.Atom{}, api.ErrType
}

// scaled returns a duration multiplied or divided by a number.
func scaled(op string, d, by api.Atom) (api.Atom, api.Errno) {
	by, e := Cast(by, api.AtomDecimal)
	if e != api.OK {
		return api.Atom{}, e
	}
	n, e := operation(op)(amount(d), by.Text)
	return duration(d.Kind, n, e)
}

// duration returns the duration of so many months, rounded to whole ones, or so many seconds; or the error with which their number was computed.
func duration(kind int, n string, e api.Errno) (api.Atom, api.Errno) {
	if e != api.OK {
		return api.Atom{}, e
	}
	if kind == api.AtomSeconds {
		s, e := dur.TextSeconds(n)
		return made(kind, s, e)
	}
	if n, e = num.Round(n, 0, "half"); e != api.OK {
		return api.Atom{}, e
	}
	// For an integer that is too large, Atoi returns the nearest one, and that is too many months, too.
	months, _ := strconv.Atoi(n)
	s, e := dur.TextMonths(months)
	return made(kind, s, e)
}
