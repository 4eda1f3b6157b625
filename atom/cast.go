package atom

import (
	"strings"

	"chisel/api"
	"chisel/chars"
	"chisel/dbl"
	"chisel/dur"
	"chisel/num"
	"chisel/time"
)

// rewriting is a function that is passed a text, and returns the canonical text of what it stands for; or any error, if it stands for nothing.
type rewriting func(s string) (string, api.Errno)

// conversion is how the text of a value is converted: whether white space at both ends of it does not count, and then what becomes of it.
type conversion struct {
	trim    bool
	rewrite rewriting
}

// conversions returns how values are converted, by their kind and the one to which they are converted. It has neither what is converted to a string or its own kind, nor untyped values, which are converted like strings.
func conversions() map[[2]int]conversion {
	return map[[2]int]conversion{
		{api.AtomString, api.AtomBool}:     {true, reader(api.AtomBool)},
		{api.AtomString, api.AtomInteger}:  {true, reader(api.AtomInteger)},
		{api.AtomString, api.AtomDecimal}:  {true, reader(api.AtomDecimal)},
		{api.AtomString, api.AtomDouble}:   {true, reader(api.AtomDouble)},
		{api.AtomString, api.AtomDate}:     {true, reader(api.AtomDate)},
		{api.AtomString, api.AtomTime}:     {true, reader(api.AtomTime)},
		{api.AtomString, api.AtomMoment}:   {true, reader(api.AtomMoment)},
		{api.AtomString, api.AtomMonths}:   {true, reader(api.AtomMonths)},
		{api.AtomString, api.AtomSeconds}:  {true, reader(api.AtomSeconds)},
		{api.AtomBool, api.AtomInteger}:    {false, digit},
		{api.AtomBool, api.AtomDecimal}:    {false, digit},
		{api.AtomBool, api.AtomDouble}:     {false, digit},
		{api.AtomInteger, api.AtomBool}:    {false, truth},
		{api.AtomDecimal, api.AtomBool}:    {false, truth},
		{api.AtomDouble, api.AtomBool}:     {false, truth},
		{api.AtomInteger, api.AtomDecimal}: {false, keep},
		{api.AtomInteger, api.AtomDouble}:  {false, through(dbl.FromNum, writeDouble)},
		{api.AtomDecimal, api.AtomInteger}: {false, cut},
		{api.AtomDecimal, api.AtomDouble}:  {false, through(dbl.FromNum, writeDouble)},
		{api.AtomDouble, api.AtomInteger}:  {false, through(through(readDouble, dbl.ToNum), cut)},
		{api.AtomDouble, api.AtomDecimal}:  {false, through(readDouble, dbl.ToNum)},
		{api.AtomMoment, api.AtomDate}:     {false, throughMoment(api.AtomMoment, api.AtomDate)},
		{api.AtomMoment, api.AtomTime}:     {false, throughMoment(api.AtomMoment, api.AtomTime)},
		{api.AtomDate, api.AtomMoment}:     {false, throughMoment(api.AtomDate, api.AtomMoment)},
	}
}

// convert returns the text of a valid value that is converted to another kind, or ErrCast if that fails.
func convert(a api.Atom, kind int) (string, api.Errno) {
	from, s := a.Kind, a.Text
	if from == api.AtomUntyped {
		from = api.AtomString
	}
	c, ok := conversions()[[2]int{from, kind}]
	if !ok {
		return "", api.ErrCast
	}
	if c.trim {
		s = strings.Trim(s, "\t\n\r ")
	}
	s, e := c.rewrite(s)
	if e != api.OK {
		return "", api.ErrCast
	}
	return s, api.OK
}

// reader returns the function that reads texts as values of a kind, or nil if this is no kind.
func reader(kind int) rewriting {
	switch kind {
	case api.AtomUntyped, api.AtomString:
		return readText
	case api.AtomBool:
		return readBool
	case api.AtomInteger:
		return readInteger
	case api.AtomDecimal:
		return num.Parse
	case api.AtomDouble:
		return through(readDouble, writeDouble)
	case api.AtomDate, api.AtomTime, api.AtomMoment:
		return throughMoment(kind, kind)
	case api.AtomMonths:
		return through(dur.ParseMonths, dur.TextMonths)
	case api.AtomSeconds:
		return through(dur.ParseSeconds, dur.TextSeconds)
	}
	return nil
}

// through returns the function that reads texts as something else, and writes this as a text again.
func through[T any](read func(s string) (T, api.Errno), write func(x T) (string, api.Errno)) rewriting {
	return func(s string) (string, api.Errno) {
		x, e := read(s)
		if e != api.OK {
			return "", e
		}
		return write(x)
	}
}

// throughMoment returns the function that reads texts as moments of a kind, and writes what another kind has of them.
func throughMoment(from, to int) rewriting {
	return through(
		func(s string) (time.Moment, api.Errno) { return time.Parse(from, s) },
		func(m time.Moment) (string, api.Errno) { return time.Text(to, m) },
	)
}

// readText returns a text as it is.
func readText(s string) (string, api.Errno) {
	if !chars.IsText(s) {
		return "", api.ErrText
	}
	return s, api.OK
}

// readBool returns the canonical text of a truth.
func readBool(s string) (string, api.Errno) {
	switch s {
	case "true", "1":
		return "true", api.OK
	case "false", "0":
		return "false", api.OK
	}
	return "", api.ErrForm
}

// readInteger returns the canonical text of an integer, which has no point.
func readInteger(s string) (string, api.Errno) {
	if strings.Contains(s, ".") {
		return "", api.ErrForm
	}
	return num.Parse(s)
}

// readDouble returns the double that a text is.
func readDouble(s string) (float64, api.Errno) {
	f, ok := dbl.Parse(s)
	if !ok {
		return 0, api.ErrForm
	}
	return f, api.OK
}

// writeDouble returns the canonical text of a double.
func writeDouble(f float64) (string, api.Errno) {
	return dbl.Text(f), api.OK
}

// keep returns a text as it is.
func keep(s string) (string, api.Errno) {
	return s, api.OK
}

// cut returns a number without its fraction.
func cut(s string) (string, api.Errno) {
	return num.Round(s, 0, "cut")
}

// digit returns the number of a truth.
func digit(s string) (string, api.Errno) {
	if s == "true" {
		return "1", api.OK
	}
	return "0", api.OK
}

// truth returns the truth of a number.
func truth(s string) (string, api.Errno) {
	switch s {
	case "0", "-0", "NaN":
		return "false", api.OK
	}
	return "true", api.OK
}
