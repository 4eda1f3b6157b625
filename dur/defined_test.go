package dur_test

import (
	"math/big"
	"math/rand/v2"
	"regexp"
	"strings"
	"testing"

	"chisel/api"
	"chisel/dur"
	"chisel/num"
)

// The forms of months and of seconds, with a group for the sign and for the number of each part, and what one of each part is worth. A form of seconds does not end with P or T.
var (
	monthsForm   = regexp.MustCompile(`^(-?)P(?:([0-9]+)Y)?(?:([0-9]+)M)?$`)
	secondsForm  = regexp.MustCompile(`^(-?)P(?:([0-9]+)D)?(?:T(?:([0-9]+)H)?(?:([0-9]+)M)?(?:([0-9]+(?:\.[0-9]+)?)S)?)?$`)
	monthsWorth  = []int64{12, 1}
	secondsWorth = []int64{86400, 3600, 60, 1}
)

// stands returns the number for which s stands, by the definition of the chapter; ok is false if it does not have this form.
func stands(s string, form *regexp.Regexp, worth []int64) (x *big.Rat, ok bool) {
	m := form.FindStringSubmatch(s)
	if m == nil || strings.HasSuffix(s, "P") || strings.HasSuffix(s, "T") {
		return nil, false
	}
	x = new(big.Rat)
	for i, w := range worth {
		if m[i+2] == "" {
			continue
		}
		// SetString takes zeros at the beginning of a whole number as a mark of its base.
		whole, fraction, _ := strings.Cut(m[i+2], ".")
		n, _ := new(big.Int).SetString(whole+fraction, 10)
		ten := new(big.Int).Exp(big.NewInt(10), big.NewInt(int64(len(fraction))), nil)
		x.Add(x, new(big.Rat).Mul(new(big.Rat).SetFrac(n, ten), big.NewRat(w, 1)))
	}
	if m[1] == "-" {
		x.Neg(x)
	}
	return x, true
}

// standsForMonths returns the number of months for which s stands.
func standsForMonths(s string) (*big.Rat, bool) { return stands(s, monthsForm, monthsWorth) }

// standsForSeconds returns the number of seconds for which s stands.
func standsForSeconds(s string) (*big.Rat, bool) { return stands(s, secondsForm, secondsWorth) }

// definedMonths returns what ParseMonths returns by its definition.
func definedMonths(s string) (int, api.Errno) {
	if len(s) > 200 {
		return 0, api.ErrLong
	}
	x, ok := standsForMonths(s)
	if !ok {
		return 0, api.ErrForm
	}
	if new(big.Rat).Abs(x).Cmp(big.NewRat(9_999_999_999, 1)) > 0 {
		return 0, api.ErrRange
	}
	return int(x.Num().Int64()), api.OK
}

// rounded returns the canonical text of x, rounded "even" to 20 digits, or ErrPlus.
func rounded(x *big.Rat) (string, api.Errno) {
	ten := new(big.Int).Exp(big.NewInt(10), big.NewInt(20), nil)
	units := new(big.Rat).Mul(new(big.Rat).Abs(x), new(big.Rat).SetInt(ten))
	whole, rest := new(big.Int).QuoRem(units.Num(), units.Denom(), new(big.Int))
	if c := rest.Lsh(rest, 1).Cmp(units.Denom()); c > 0 || c == 0 && whole.Bit(0) == 1 {
		whole.Add(whole, big.NewInt(1))
	}
	digits := whole.String()
	digits = zeros(max(21-len(digits), 0)) + digits
	before, after := digits[:len(digits)-20], strings.TrimRight(digits[len(digits)-20:], "0")
	if len(before) > 30 {
		return "", api.ErrPlus
	}
	s := strings.TrimSuffix(before+"."+after, ".")
	if x.Sign() < 0 && s != "0" {
		s = "-" + s
	}
	return s, api.OK
}

// definedSeconds returns what ParseSeconds returns by its definition.
func definedSeconds(s string) (string, api.Errno) {
	if len(s) > 200 {
		return "", api.ErrLong
	}
	x, ok := standsForSeconds(s)
	if !ok {
		return "", api.ErrForm
	}
	return rounded(x)
}

// pick returns one of l.
func pick[T any](g *rand.Rand, l ...T) T { return l[g.IntN(len(l))] }

// someDigits returns n digits by chance, many of which are 0, 9 or 5.
func someDigits(g *rand.Rand, n int) string {
	s := ""
	for len(s) < n {
		run := 1 + g.IntN(12)
		s += pick(g, zeros(run), nines(run), "5", string(rune('0'+g.IntN(10))), string(rune('0'+g.IntN(10))))
	}
	return s[:n]
}

// somePart returns a part with this letter by chance, or nothing.
func somePart(g *rand.Rand, letter string) string {
	if g.IntN(3) == 0 {
		return ""
	}
	number := zeros(pick(g, 0, 0, 0, 0, 1, 3, 60)) + someDigits(g, pick(g, 1, 1, 2, 2, 3, 9, 10, 11, 19, 20, 26, 28, 30, 31, 1+g.IntN(40)))
	if letter == "S" && g.IntN(2) == 0 {
		number += "." + someDigits(g, pick(g, 1, 1, 2, 9, 19, 20, 21, 21, 22, 1+g.IntN(100)))
	}
	return number + letter
}

// someMonths returns a text by chance that has the form of months, or nearly so.
func someMonths(g *rand.Rand) string {
	return pick(g, "", "", "-") + "P" + somePart(g, "Y") + somePart(g, "M")
}

// someSeconds returns a text by chance that has the form of seconds, or nearly so.
func someSeconds(g *rand.Rand) string {
	s := pick(g, "", "", "-") + "P" + somePart(g, "D")
	if g.IntN(4) > 0 {
		s += "T" + somePart(g, "H") + somePart(g, "M") + somePart(g, "S")
	}
	return s
}

// changed returns s, often with a few bytes put in, left out or replaced.
func changed(g *rand.Rand, s string) string {
	for range pick(g, 0, 0, 0, 1, 1, 2) {
		i := g.IntN(len(s) + 1)
		s = s[:i] + pick(g, "", "P", "T", "Y", "M", "D", "H", "S", "-", "+", ".", "0", "9", "1", " ", "/", ":", "s", "W", "\xff", "\u0660", zeros(100)) + s[min(i+g.IntN(2), len(s)):]
	}
	return s
}

// P6.1: texts by chance, against the definition.
func TestParseMonthsDefinition(t *testing.T) {
	g := rand.New(rand.NewPCG(1, 2))
	found := map[api.Errno]int{}
	for range 100000 {
		s := changed(g, pick(g, someMonths, someMonths, someMonths, someSeconds)(g))
		want, e := definedMonths(s)
		found[e]++
		if got, f := dur.ParseMonths(s); got != want || f != e {
			t.Fatalf("ParseMonths of %q: %d, %d, not %d, %d", s, got, f, want, e)
		}
	}
	if found[api.OK] < 5000 || found[api.ErrForm] < 10000 || found[api.ErrRange] < 5000 || found[api.ErrLong] < 300 {
		t.Error(found)
	}
}

// P6.3: texts by chance, against the definition.
func TestParseSecondsDefinition(t *testing.T) {
	g := rand.New(rand.NewPCG(3, 4))
	found := map[api.Errno]int{}
	for range 100000 {
		s := changed(g, pick(g, someSeconds, someSeconds, someSeconds, someMonths)(g))
		want, e := definedSeconds(s)
		found[e]++
		if got, f := dur.ParseSeconds(s); got != want || f != e {
			t.Fatalf("ParseSeconds of %q: %q, %d, not %q, %d", s, got, f, want, e)
		}
	}
	if found[api.OK] < 5000 || found[api.ErrForm] < 10000 || found[api.ErrPlus] < 5000 || found[api.ErrLong] < 1000 {
		t.Error(found)
	}
}

// P6.1 and P6.3: all short strings of the bytes that matter, against the definitions.
func TestShortForms(t *testing.T) {
	const letters = "P1.YMDTHS-"
	found := 0
	var check func(s string, left int)
	check = func(s string, left int) {
		n, e := definedMonths(s)
		if got, f := dur.ParseMonths(s); got != n || f != e {
			t.Fatalf("ParseMonths of %q: %d, %d, not %d, %d", s, got, f, n, e)
		}
		want, d := definedSeconds(s)
		if got, f := dur.ParseSeconds(s); got != want || f != d {
			t.Fatalf("ParseSeconds of %q: %q, %d, not %q, %d", s, got, f, want, d)
		}
		if e == api.OK || d == api.OK {
			found++
		}
		if left == 0 {
			return
		}
		for _, c := range letters {
			check(s+string(c), left-1)
		}
	}
	for _, s := range []string{"", "P", "-P", "PT", "P1DT", "PT1H", "P1Y"} {
		check(s, 4)
	}
	if found < 50 {
		t.Error("forms:", found)
	}
}

// count returns how many whole units are in n, less those that make a greater unit (0: there is none).
func count(n *big.Int, unit, greater int64) string {
	if greater > 0 {
		n = new(big.Int).Mod(n, big.NewInt(greater))
	}
	return new(big.Int).Div(n, big.NewInt(unit)).String()
}

// joined returns numbers with their letters, without those that are 0.
func joined(l ...string) string {
	s := ""
	for i := 0; i < len(l); i += 2 {
		if l[i] != "0" {
			s += l[i] + l[i+1]
		}
	}
	return s
}

// definedSecondsText returns the canonical text of a number of seconds, by its definition.
func definedSecondsText(n string) string {
	if n == "0" {
		return "PT0S"
	}
	size, below := strings.CutPrefix(n, "-")
	whole, fraction, point := strings.Cut(size, ".")
	x, _ := new(big.Int).SetString(whole, 10)
	seconds := count(x, 1, 60)
	if point {
		seconds += "." + fraction
	}
	s := "P" + joined(count(x, 86400, 0), "D")
	if clock := joined(count(x, 3600, 86400), "H", count(x, 60, 3600), "M", seconds, "S"); clock != "" {
		s += "T" + clock
	}
	if below {
		s = "-" + s
	}
	return s
}

// P6.2: numbers by chance, against the definition.
func TestTextMonthsDefinition(t *testing.T) {
	g := rand.New(rand.NewPCG(5, 6))
	for i := range 40000 {
		n := i - 20000
		if i%2 == 0 {
			n = pick(g, 1, -1) * int(g.Int64N(pick[int64](g, 1000, 1e6, 1e9, 1e10)))
		}
		size := big.NewInt(int64(max(n, -n)))
		want := "P" + joined(count(size, 12, 0), "Y", count(size, 1, 12), "M")
		switch {
		case n == 0:
			want = "P0M"
		case n < 0:
			want = "-" + want
		}
		if got, e := dur.TextMonths(n); got != want || e != api.OK {
			t.Fatalf("TextMonths of %d: %q, %d, not %q", n, got, e, want)
		}
	}
}

// someNumber returns a canonical text of a number by chance, which is often near to a number of days, hours or minutes.
func someNumber(g *rand.Rand) string {
	for {
		s, e := num.Parse(pick(g, "", "-") + someDigits(g, 1+g.IntN(30)) + "." + someDigits(g, g.IntN(21)))
		if g.IntN(2) == 0 {
			s, e = num.Mul(pick(g, "60", "3600", "86400"), someDigits(g, 1)+pick(g, "", ".5", "."+nines(18), "."+zeros(17)+"1"))
		}
		if e == api.OK {
			return s
		}
	}
}

// P6.4: numbers by chance, against the definition.
func TestTextSecondsDefinition(t *testing.T) {
	g := rand.New(rand.NewPCG(7, 8))
	for range 40000 {
		n := someNumber(g)
		want := definedSecondsText(n)
		if got, e := dur.TextSeconds(n); got != want || e != api.OK {
			t.Fatalf("TextSeconds of %s: %q, %d, not %q", n, got, e, want)
		}
	}
}
