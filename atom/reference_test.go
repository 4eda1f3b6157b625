package atom_test

import (
	"math"
	"math/big"
	"regexp"
	"slices"
	"strconv"
	"strings"
	calendar "time"
	"unicode/utf8"

	"chisel/api"
)

// This file computes what the functions return from the definitions of the chapters alone: with exact fractions, doubles, and the calendar of Go's library.

// rat returns the number of a decimal text.
func rat(s string) *big.Rat {
	x, ok := new(big.Rat).SetString(s)
	if !ok {
		panic(s)
	}
	return x
}

// floor returns the greatest whole number that is not above x.
func floor(x *big.Rat) *big.Int {
	// Div rounds down, since denominators are above 0.
	return new(big.Int).Div(x.Num(), x.Denom())
}

// cutOff returns x without its fraction.
func cutOff(x *big.Rat) *big.Rat {
	return new(big.Rat).SetInt(new(big.Int).Quo(x.Num(), x.Denom()))
}

// even returns x rounded "even" to so many digits.
func even(x *big.Rat, digits int) *big.Rat {
	unit := rat("1" + zeros(digits))
	scaled := new(big.Rat).Mul(x, unit)
	whole := new(big.Rat).Add(scaled, big.NewRat(1, 2))
	n := floor(whole)
	if whole.IsInt() && n.Bit(0) == 1 {
		n.Sub(n, big.NewInt(1))
	}
	return new(big.Rat).Quo(new(big.Rat).SetInt(n), unit)
}

// definedNumber returns the canonical text of a result.
func definedNumber(x *big.Rat) (string, api.Errno) {
	x = even(x, 20)
	if new(big.Rat).Abs(x).Cmp(rat("1"+zeros(30))) >= 0 {
		return "", api.ErrPlus
	}
	return strings.TrimSuffix(strings.TrimRight(x.FloatString(20), "0"), "."), api.OK
}

// definedDouble returns the canonical text of a double.
func definedDouble(f float64) string {
	switch size := math.Abs(f); {
	case math.IsNaN(f):
		return "NaN"
	case math.IsInf(f, 0):
		return strings.TrimPrefix(strings.ToUpper(strconv.FormatFloat(f, 'f', -1, 64)), "+")
	case f == 0, size >= 0.000001 && size < 1000000:
		return strconv.FormatFloat(f, 'f', -1, 64)
	}
	digits, power, _ := strings.Cut(strconv.FormatFloat(f, 'e', -1, 64), "e")
	if !strings.Contains(digits, ".") {
		digits += ".0"
	}
	n, _ := strconv.Atoi(power)
	return digits + "E" + strconv.Itoa(n)
}

// The forms of texts, with a group for each part.
var (
	numberForm  = regexp.MustCompile(`\A[+-]?([0-9]+\.?[0-9]*|\.[0-9]+)\z`)
	doubleForm  = regexp.MustCompile(`\A[+-]?([0-9]+\.?[0-9]*|\.[0-9]+)([Ee][+-]?[0-9]+)?\z`)
	integerForm = regexp.MustCompile(`\A[+-]?[0-9]+\z`)
	monthsForm  = regexp.MustCompile(`\A(-?)P(?:([0-9]+)Y)?(?:([0-9]+)M)?\z`)
	secondsForm = regexp.MustCompile(`\A(-?)P(?:([0-9]+)D)?(T)?(?:([0-9]+)H)?(?:([0-9]+)M)?(?:([0-9]+(?:\.[0-9]+)?)S)?\z`)
	momentForms = map[int]*regexp.Regexp{
		api.AtomDate:   regexp.MustCompile(`\A([0-9]{4}-[0-9]{2}-[0-9]{2})()` + zoneForm + `\z`),
		api.AtomTime:   regexp.MustCompile(`\A()` + clockForm + zoneForm + `\z`),
		api.AtomMoment: regexp.MustCompile(`\A([0-9]{4}-[0-9]{2}-[0-9]{2})T` + clockForm + zoneForm + `\z`),
	}
)

const (
	clockForm = `([0-9]{2}:[0-9]{2}:[0-9]{2}(?:\.[0-9]{1,6})?)`
	zoneForm  = `(Z|[+-][0-9]{2}:[0-9]{2})?`
)

// readMoment returns the local time of a text, as if it were universal time, and its zone as it is written in canonical texts; ok is false if it has another form or is out of range.
func readMoment(kind int, s string) (local calendar.Time, zone string, ok bool) {
	m := momentForms[kind].FindStringSubmatch(s)
	if m == nil {
		return local, "", false
	}
	if m[1] == "" {
		m[1] = "1972-12-31"
	}
	clock, midnight := m[2], strings.HasPrefix(m[2], "24:00:00") && strings.Trim(m[2][8:], ".0") == ""
	if clock == "" || midnight {
		clock = "00:00:00"
	}
	local, err := calendar.Parse("2006-01-02T15:04:05", m[1]+"T"+clock)
	if midnight && kind == api.AtomMoment {
		local = local.AddDate(0, 0, 1)
	}
	if zone = m[3]; zone == "+00:00" || zone == "-00:00" {
		zone = "Z"
	}
	inRange := zone <= "+14:00" || zone >= "-00:00" && zone <= "-14:00" || zone == "Z"
	return local, zone, err == nil && local.Year() >= 1 && local.Year() <= 9999 && inRange && (len(zone) < 6 || zone[4:] < "60")
}

// writeMoment returns the canonical text of a local time.
func writeMoment(kind int, local calendar.Time, zone string) string {
	return local.Format(map[int]string{api.AtomDate: "2006-01-02", api.AtomTime: "15:04:05.999999", api.AtomMoment: "2006-01-02T15:04:05.999999"}[kind]) + zone
}

// zoneSeconds returns the seconds of a zone.
func zoneSeconds(zone string) *big.Rat {
	if len(zone) < 6 {
		return new(big.Rat)
	}
	hours, _ := strconv.Atoi(zone[1:3])
	minutes, _ := strconv.Atoi(zone[4:])
	n := big.NewRat(int64(3600*hours+60*minutes), 1)
	if zone[0] == '-' {
		n.Neg(n)
	}
	return n
}

// readDuration returns the months or seconds of a text; ok is false if it has another form, or there are too many.
func readDuration(kind int, s string) (x *big.Rat, ok bool) {
	form, units := secondsForm, []string{"86400", "", "3600", "60", "1"}
	if kind == api.AtomMonths {
		form, units = monthsForm, []string{"12", "1"}
	}
	m := form.FindStringSubmatch(s)
	if m == nil || len(s) > 200 || strings.HasSuffix(s, "P") || strings.HasSuffix(s, "T") {
		return nil, false
	}
	x = new(big.Rat)
	for i, unit := range units {
		if unit != "" && m[i+2] != "" {
			// What is counted in hours, minutes or seconds comes after a T.
			if kind == api.AtomSeconds && i > 1 && m[3] == "" {
				return nil, false
			}
			x.Add(x, new(big.Rat).Mul(rat(m[i+2]), rat(unit)))
		}
	}
	if m[1] != "" {
		x.Neg(x)
	}
	_, e := definedDuration(kind, x)
	return even(x, 20), e == api.OK
}

// definedDuration returns the canonical text of so many seconds, or of so many months, which are whole.
func definedDuration(kind int, x *big.Rat) (string, api.Errno) {
	if kind == api.AtomMonths && new(big.Rat).Abs(x).Cmp(rat("9999999999")) > 0 {
		return "", api.ErrRange
	}
	s, e := definedNumber(x)
	if e != api.OK {
		return "", e
	}
	left := rat(s)
	if left.Sign() == 0 {
		return map[int]string{api.AtomMonths: "P0M", api.AtomSeconds: "PT0S"}[kind], api.OK
	}
	sign := ""
	if left.Sign() < 0 {
		sign = "-"
		left.Neg(left)
	}
	part := func(unit, letter string) string {
		n := cutOff(new(big.Rat).Quo(left, rat(unit)))
		left.Sub(left, new(big.Rat).Mul(n, rat(unit)))
		if n.Sign() == 0 {
			return ""
		}
		return n.Num().String() + letter
	}
	if kind == api.AtomMonths {
		return sign + "P" + part("12", "Y") + part("1", "M"), api.OK
	}
	days := part("86400", "D")
	clock := part("3600", "H") + part("60", "M")
	if left.Sign() > 0 {
		s, _ := definedNumber(left)
		clock += s + "S"
	}
	if clock != "" {
		clock = "T" + clock
	}
	return sign + "P" + days + clock, api.OK
}

// isText reports whether a string is a text.
func isText(s string) bool {
	return utf8.ValidString(s) && !strings.ContainsFunc(s, func(c rune) bool {
		return c < 0x20 && c != 9 && c != 10 && c != 13 || c > 0xfffd && c < 0x10000
	})
}

// definedRead returns the canonical text of what a text stands for as a value of a kind that is no string; ok is false if it stands for none.
func definedRead(kind int, s string) (text string, ok bool) {
	switch kind {
	case api.AtomBool:
		text = map[string]string{"true": "true", "1": "true", "false": "false", "0": "false"}[s]
		return text, text != ""
	case api.AtomInteger, api.AtomDecimal:
		if len(s) > 200 || !numberForm.MatchString(s) || kind == api.AtomInteger && !integerForm.MatchString(s) {
			return "", false
		}
		text, e := definedNumber(rat(s))
		return text, e == api.OK
	case api.AtomDouble:
		if s == "NaN" || s == "INF" || s == "-INF" {
			return s, true
		}
		f, _ := strconv.ParseFloat(s, 64)
		return definedDouble(f), doubleForm.MatchString(s)
	case api.AtomMonths, api.AtomSeconds:
		x, ok := readDuration(kind, s)
		if !ok {
			return "", false
		}
		text, _ := definedDuration(kind, x)
		return text, true
	}
	local, zone, ok := readMoment(kind, s)
	return writeMoment(kind, local, zone), ok
}

// definedValid returns what Valid returns by its definition.
func definedValid(a api.Atom) bool {
	switch {
	case a.Kind < api.AtomUntyped || a.Kind > api.AtomSeconds:
		return false
	case a.Kind <= api.AtomString:
		return isText(a.Text)
	}
	s, ok := definedRead(a.Kind, a.Text)
	return ok && s == a.Text
}

// The kinds of which two values can be computed with.
func exact(kind int) bool    { return kind == api.AtomInteger || kind == api.AtomDecimal }
func number(kind int) bool   { return exact(kind) || kind == api.AtomDouble }
func moment(kind int) bool   { return kind >= api.AtomDate && kind <= api.AtomMoment }
func duration(kind int) bool { return kind == api.AtomMonths || kind == api.AtomSeconds }

// doubleOf returns the double of a number.
func doubleOf(a api.Atom) float64 {
	f, _ := strconv.ParseFloat(a.Text, 64)
	return f
}

// definedDecimal returns the exact number of a number, rounded to 20 digits; ok is false if it has none.
func definedDecimal(a api.Atom) (x *big.Rat, ok bool) {
	if exact(a.Kind) {
		return rat(a.Text), true
	}
	f := doubleOf(a)
	if math.IsNaN(f) || math.IsInf(f, 0) {
		return nil, false
	}
	x = even(new(big.Rat).SetFloat64(f), 20)
	_, e := definedNumber(x)
	return x, e == api.OK
}

// definedCast returns what Cast returns by its definition.
func definedCast(a api.Atom, kind int) (api.Atom, api.Errno) {
	if !definedValid(a) || kind < api.AtomUntyped || kind > api.AtomSeconds {
		return api.Atom{}, api.ErrArg
	}
	text, ok := "", false
	switch {
	case kind == a.Kind, kind <= api.AtomString:
		text, ok = a.Text, true
	case a.Kind <= api.AtomString:
		text, ok = definedRead(kind, strings.TrimFunc(a.Text, func(c rune) bool { return strings.ContainsRune("\x09\x0a\x0d\x20", c) }))
	case a.Kind == api.AtomBool && number(kind):
		text, ok = map[string]string{"true": "1", "false": "0"}[a.Text], true
	case number(a.Kind) && kind == api.AtomBool:
		f := doubleOf(a)
		text, ok = strconv.FormatBool(f < 0 || f > 0), true
	case exact(a.Kind) && kind == api.AtomDouble:
		text, ok = definedDouble(doubleOf(a)), true
	case number(a.Kind) && exact(kind):
		var x *big.Rat
		if x, ok = definedDecimal(a); ok && kind == api.AtomInteger {
			x = cutOff(x)
		}
		if ok {
			text, _ = definedNumber(x)
		}
	case a.Kind == api.AtomMoment && moment(kind), a.Kind == api.AtomDate && kind == api.AtomMoment:
		local, zone, _ := readMoment(a.Kind, a.Text)
		text, ok = writeMoment(kind, local, zone), true
	}
	if !ok {
		return api.Atom{}, api.ErrCast
	}
	return api.Atom{Kind: kind, Text: text}, api.OK
}

// amountOf returns the number of an exact number, the seconds of a moment, or the months or seconds of a duration.
func amountOf(a api.Atom) *big.Rat {
	switch {
	case moment(a.Kind):
		local, zone, _ := readMoment(a.Kind, a.Text)
		return new(big.Rat).Sub(big.NewRat(local.UnixMicro(), 1000000), zoneSeconds(zone))
	case duration(a.Kind):
		x, _ := readDuration(a.Kind, a.Text)
		return x
	}
	return rat(a.Text)
}

// definedOrder returns -1 if a is less than b, 0 if it is equal, 1 if it is greater, and 2 otherwise; ErrType if they cannot be compared.
func definedOrder(a, b api.Atom) (int, api.Errno) {
	switch {
	case a.Kind <= api.AtomString && b.Kind <= api.AtomString:
		return slices.Compare([]byte(a.Text), []byte(b.Text)), api.OK
	case a.Kind == api.AtomBool && b.Kind == api.AtomBool:
		return len(b.Text) - len(a.Text), api.OK
	case exact(a.Kind) && exact(b.Kind), a.Kind == b.Kind && (moment(a.Kind) || duration(a.Kind)):
		return amountOf(a).Cmp(amountOf(b)), api.OK
	case number(a.Kind) && number(b.Kind):
		f, g := doubleOf(a), doubleOf(b)
		for order, holds := range map[int]bool{-1: f < g, 0: f == g, 1: f > g} {
			if holds {
				return order, api.OK
			}
		}
		return 2, api.OK
	}
	return 0, api.ErrType
}

// definedSame returns what Same returns by its definition.
func definedSame(a, b api.Atom) bool {
	if !definedValid(a) || !definedValid(b) {
		return false
	}
	if exact(b.Kind) {
		a, b = b, a
	}
	texts := a.Text == b.Text
	switch {
	case a.Kind <= api.AtomString && b.Kind <= api.AtomString, exact(a.Kind) && exact(b.Kind):
		return texts
	case exact(a.Kind) && b.Kind == api.AtomDouble:
		x, ok := definedDecimal(b)
		return ok && x.Cmp(rat(a.Text)) == 0 && doubleOf(a) == doubleOf(b)
	case a.Kind == api.AtomDouble && b.Kind == api.AtomDouble:
		return texts || strings.TrimPrefix(a.Text, "-") == "0" && strings.TrimPrefix(b.Text, "-") == "0"
	}
	return a.Kind == b.Kind && texts
}
