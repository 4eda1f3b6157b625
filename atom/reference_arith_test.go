package atom_test

import (
	"math"
	"math/big"
	"strconv"
	calendar "time"

	"chisel/api"
)

// value returns a value with its text, or an error.
func value(kind int, s string, e api.Errno) (api.Atom, api.Errno) {
	if e != api.OK {
		return api.Atom{}, e
	}
	return api.Atom{Kind: kind, Text: s}, api.OK
}

// definedArith returns what Arith returns by its definition, for valid values.
func definedArith(op string, a, b api.Atom) (api.Atom, api.Errno) {
	switch {
	case exact(a.Kind) && exact(b.Kind):
		kind := max(a.Kind, b.Kind)
		switch op {
		case "div":
			kind = api.AtomDecimal
		case "idiv":
			kind = api.AtomInteger
		}
		x, e := compute(op, amountOf(a), amountOf(b))
		if e != api.OK {
			return api.Atom{}, e
		}
		s, e := definedNumber(x)
		return value(kind, s, e)
	case number(a.Kind) && number(b.Kind):
		return definedFloat(op, doubleOf(a), doubleOf(b))
	case moment(b.Kind) && duration(a.Kind) && op == "+", number(a.Kind) && duration(b.Kind) && op == "*":
		a, b = b, a
	}
	signed := op == "+" || op == "-"
	switch {
	case moment(a.Kind) && a.Kind == b.Kind && op == "-":
		s, e := definedDuration(api.AtomSeconds, new(big.Rat).Sub(amountOf(a), amountOf(b)))
		return value(api.AtomSeconds, s, e)
	case signed && moment(a.Kind) && b.Kind == api.AtomSeconds, signed && (a.Kind == api.AtomDate || a.Kind == api.AtomMoment) && b.Kind == api.AtomMonths:
		by := amountOf(b)
		if op == "-" {
			by.Neg(by)
		}
		return definedLater(a, by, b.Kind == api.AtomMonths)
	case duration(a.Kind) && a.Kind == b.Kind && (signed || op == "div"):
		x, e := compute(op, amountOf(a), amountOf(b))
		if e != api.OK {
			return api.Atom{}, e
		}
		if op == "div" {
			s, e := definedNumber(x)
			return value(api.AtomDecimal, s, e)
		}
		s, e := definedDuration(a.Kind, x)
		return value(a.Kind, s, e)
	case duration(a.Kind) && number(b.Kind) && (op == "*" || op == "div"):
		return definedScaled(op, a, b)
	}
	return api.Atom{}, api.ErrType
}

// compute computes with exact numbers; the result is not rounded.
func compute(op string, x, y *big.Rat) (*big.Rat, api.Errno) {
	z := new(big.Rat)
	switch op {
	case "+":
		return z.Add(x, y), api.OK
	case "-":
		return z.Sub(x, y), api.OK
	case "*":
		return z.Mul(x, y), api.OK
	}
	if y.Sign() == 0 {
		return nil, api.ErrDiv
	}
	quotient := z.Quo(x, y)
	switch op {
	case "idiv":
		return cutOff(quotient), api.OK
	case "mod":
		return new(big.Rat).Sub(x, new(big.Rat).Mul(y, cutOff(quotient))), api.OK
	}
	return quotient, api.OK
}

// definedFloat computes with doubles.
func definedFloat(op string, f, g float64) (api.Atom, api.Errno) {
	results := map[string]float64{"+": f + g, "-": f - g, "*": f * g, "div": f / g, "mod": math.Mod(f, g)}
	if op != "idiv" {
		return value(api.AtomDouble, definedDouble(results[op]), api.OK)
	}
	if g == 0 {
		return api.Atom{}, api.ErrDiv
	}
	x, ok := definedDecimal(api.Atom{Kind: api.AtomDouble, Text: definedDouble(f / g)})
	if !ok {
		return api.Atom{}, api.ErrPlus
	}
	s, e := definedNumber(cutOff(x))
	return value(api.AtomInteger, s, e)
}

// definedLater returns a moment that is later by so many months, or so many seconds.
func definedLater(a api.Atom, by *big.Rat, months bool) (api.Atom, api.Errno) {
	local, zone, _ := readMoment(a.Kind, a.Text)
	if months {
		n := int(by.Num().Int64())
		// The last day of the month is the one before the first one of the next month.
		first := calendar.Date(local.Year(), local.Month()+calendar.Month(n), 1, 0, 0, 0, 0, calendar.UTC)
		last := first.AddDate(0, 1, -1).Day()
		day, clock := local.Day(), local.Sub(local.Truncate(24*calendar.Hour))
		local = first.AddDate(0, 0, min(day, last)-1).Add(clock)
	} else {
		micros := floor(new(big.Rat).Mul(even(by, 6), rat("1000000")))
		micros.Add(micros, big.NewInt(local.UnixMicro()))
		// No year is that far from 1970; nearer ones can be counted by the library.
		if new(big.Int).Abs(micros).Cmp(big.NewInt(1e18)) > 0 {
			return api.Atom{}, api.ErrRange
		}
		local = calendar.UnixMicro(micros.Int64()).UTC()
	}
	if local.Year() < 1 || local.Year() > 9999 {
		return api.Atom{}, api.ErrRange
	}
	return value(a.Kind, writeMoment(a.Kind, local, zone), api.OK)
}

// definedScaled returns a duration multiplied or divided by a number.
func definedScaled(op string, a, b api.Atom) (api.Atom, api.Errno) {
	y, ok := definedDecimal(b)
	if !ok {
		return api.Atom{}, api.ErrCast
	}
	x, e := compute(op, amountOf(a), y)
	if e != api.OK {
		return api.Atom{}, e
	}
	s, e := definedNumber(x)
	if e != api.OK {
		return api.Atom{}, e
	}
	if x = rat(s); a.Kind == api.AtomMonths {
		x = new(big.Rat).SetInt(floor(x.Add(x, big.NewRat(1, 2))))
		if _, e := definedNumber(x); e != api.OK {
			return api.Atom{}, e
		}
	}
	s, e = definedDuration(a.Kind, x)
	return value(a.Kind, s, e)
}

// definedNeg returns what Neg returns by its definition, for valid values.
func definedNeg(a api.Atom) (api.Atom, api.Errno) {
	switch {
	case exact(a.Kind):
		s, e := definedNumber(new(big.Rat).Neg(rat(a.Text)))
		return value(a.Kind, s, e)
	case a.Kind == api.AtomDouble:
		f, _ := strconv.ParseFloat(a.Text, 64)
		return value(a.Kind, definedDouble(math.Copysign(f, map[bool]float64{false: 1, true: -1}[!math.Signbit(f)])), api.OK)
	}
	return api.Atom{}, api.ErrType
}
