package num_test

import (
	"math/big"
	"math/rand/v2"
	"regexp"
	"strings"
	"testing"

	"chisel/api"
	"chisel/num"
)

// tenTo returns 10^n, where n may be below 0.
func tenTo(n int) *big.Rat {
	p := new(big.Rat).SetInt(new(big.Int).Exp(big.NewInt(10), big.NewInt(int64(max(n, -n))), nil))
	if n < 0 {
		p.Inv(p)
	}
	return p
}

// rat returns the number that a canonical text stands for.
func rat(s string) *big.Rat {
	x, ok := new(big.Rat).SetString(s)
	if !ok {
		panic(s)
	}
	return x
}

// floor returns the greatest whole number that is not above x.
func floor(x *big.Rat) *big.Int {
	// Div rounds down, since denominators are above 0.
	return new(big.Int).Div(x.Num(), x.Denom())
}

// roundTo rounds x to so many digits, by the definition of the chapter.
func roundTo(x *big.Rat, digits int, how string) *big.Rat {
	quotient := new(big.Rat).Quo(x, tenTo(-digits))
	low := floor(quotient)
	high := new(big.Int).Neg(floor(new(big.Rat).Neg(quotient)))
	toLow := new(big.Rat).Sub(quotient, new(big.Rat).SetInt(low))
	toHigh := new(big.Rat).Sub(new(big.Rat).SetInt(high), quotient)
	chosen := low
	switch c := toLow.Cmp(toHigh); {
	case how == "ceiling", how == "cut" && x.Sign() < 0:
		chosen = high
	case how == "floor", how == "cut", c < 0:
	case c > 0, how == "half", low.Bit(0) == 1:
		chosen = high
	}
	return new(big.Rat).Mul(new(big.Rat).SetInt(chosen), tenTo(-digits))
}

// result returns the canonical text of the result for x, or ErrPlus.
func result(x *big.Rat) (string, api.Errno) {
	x = roundTo(x, 20, "even")
	if new(big.Rat).Abs(x).Cmp(tenTo(30)) >= 0 {
		return "", api.ErrPlus
	}
	s := strings.TrimRight(x.FloatString(20), "0")
	return strings.TrimSuffix(s, "."), api.OK
}

// The forms of canonical texts, without the exception that there is no -0, and of what Parse reads.
var (
	canonicalForm = regexp.MustCompile(`^-?(0|[1-9][0-9]{0,29})(\.[0-9]{0,19}[1-9])?$`)
	parsedForm    = regexp.MustCompile(`^[+-]?([0-9]+(\.[0-9]*)?|\.[0-9]+)$`)
)

// isCanonical reports whether s is a canonical text.
func isCanonical(s string) bool {
	return s != "-0" && canonicalForm.MatchString(s)
}

// pick returns one of l.
func pick[T any](g *rand.Rand, l ...T) T { return l[g.IntN(len(l))] }

// someDigits returns n digits by chance, many of which are 0, 9 or 5, and often nine of them at a time from the end.
func someDigits(g *rand.Rand, n int) string {
	s := ""
	for len(s) < n {
		run := pick(g, 1, 2, 9, 9, 9-len(s)%9, 1+g.IntN(12))
		digits := pick(g, zeros(run), zeros(run-1)+"1", nines(run), nines(run-1)+"8", "5"+zeros(run-1), "4"+nines(run-1), "1"+zeros(run-1))
		if g.IntN(3) == 0 {
			digits = ""
			for range run {
				digits += string(rune('0' + g.IntN(10)))
			}
		}
		s = digits + s
	}
	return s[len(s)-n:]
}

// someNumber returns a canonical text by chance.
func someNumber(g *rand.Rand) string {
	before := someDigits(g, pick(g, 0, 1, 1, 2, 7, 9, 10, 16, 18, 27, 29, 30, g.IntN(31)))
	after := someDigits(g, pick(g, 0, 0, 1, 2, 9, 10, 18, 19, 20, 20, g.IntN(21)))
	s := strings.TrimLeft(before, "0")
	if s == "" {
		s = "0"
	}
	if after = strings.TrimRight(after, "0"); after != "" {
		s += "." + after
	}
	if s != "0" {
		s = pick(g, "", "-") + s
	}
	return s
}

// nearby returns the canonical text of x, or of a number that differs from it by one or two units of the last digit; or another one, if x is too large.
func nearby(g *rand.Rand, x *big.Rat) string {
	units := new(big.Rat).Mul(tenTo(-20), big.NewRat(int64(pick(g, 0, 0, 0, -1, 1, 2)), 1))
	s, e := result(units.Add(units, x))
	if e != api.OK {
		return someNumber(g)
	}
	return s
}

// somePair returns two canonical texts by chance, the first of which is often near to the second one or to a multiple of it.
func somePair(g *rand.Rand) (a, b string) {
	b = someNumber(g)
	x := rat(b)
	switch g.IntN(7) {
	case 0:
		return nearby(g, x), b
	case 1:
		return nearby(g, x.Neg(x)), b
	case 2, 3:
		times, _ := new(big.Rat).SetString(pick(g, "", "-") + "1" + someDigits(g, g.IntN(30)))
		return nearby(g, x.Mul(x, times)), b
	case 4:
		return nearby(g, x.Mul(x, rat(pick(g, "0.5", "1.5", "2.5", "-0.5", "-3.5", "0.1", "1000000000")))), b
	case 5:
		if x.Sign() != 0 {
			return nearby(g, x.Mul(tenTo(g.IntN(52)-21), x.Inv(x))), b
		}
	}
	return someNumber(g), b
}

// quotients returns the exact quotient of x and y, the whole one, and the remainder.
func quotients(x, y *big.Rat) (exact, whole, rest *big.Rat) {
	exact = new(big.Rat).Quo(x, y)
	whole = roundTo(exact, 0, "cut")
	return exact, whole, new(big.Rat).Sub(x, new(big.Rat).Mul(y, whole))
}

// P4.2 to P4.4: pairs of numbers by chance, against the definitions.
func TestDefinitions(t *testing.T) {
	g := rand.New(rand.NewPCG(1, 2))
	found := map[api.Errno]int{}
	for range 40000 {
		a, b := somePair(g)
		x, y := rat(a), rat(b)
		check := func(name string, f binary, want *big.Rat) {
			s, e := "", api.ErrDiv
			if want != nil {
				s, e = result(want)
			}
			found[e]++
			if got, f := f(a, b); got != s || f != e {
				t.Fatalf("%s of %s and %s: %q, %d, not %q, %d", name, a, b, got, f, s, e)
			}
		}
		check("Add", num.Add, new(big.Rat).Add(x, y))
		check("Sub", num.Sub, new(big.Rat).Sub(x, y))
		check("Mul", num.Mul, new(big.Rat).Mul(x, y))
		var exact, whole, rest *big.Rat
		if y.Sign() != 0 {
			exact, whole, rest = quotients(x, y)
		}
		check("Div", num.Div, exact)
		check("IDiv", num.IDiv, whole)
		check("Mod", num.Mod, rest)
		check("Neg", func(a, b string) (string, api.Errno) { return num.Neg(a) }, new(big.Rat).Neg(x))
		if c, e := num.Cmp(a, b); c != x.Cmp(y) || e != api.OK {
			t.Fatalf("Cmp of %s and %s: %d, %d", a, b, c, e)
		}
		if got := num.IsInt(a); got != x.IsInt() {
			t.Fatalf("IsInt of %s: %t", a, got)
		}
	}
	if found[api.OK] < 50000 || found[api.ErrPlus] < 10000 || found[api.ErrDiv] < 1000 {
		t.Error(found)
	}
}

// P4.6: numbers by chance, to all numbers of digits and in all ways.
func TestRoundDefinition(t *testing.T) {
	g := rand.New(rand.NewPCG(3, 4))
	found := map[api.Errno]int{}
	for range 40000 {
		a, digits := someNumber(g), g.IntN(51)-30
		if g.IntN(2) == 0 {
			// A number with just a half of what is rounded to, or nearly a half.
			half := new(big.Rat).Mul(tenTo(-digits), big.NewRat(int64(2*g.IntN(200)-199), 2))
			a = nearby(g, half.Add(half, roundTo(rat(a), pick(g, digits, digits, digits-1), "floor")))
		}
		for _, how := range ways() {
			want, e := result(roundTo(rat(a), digits, how))
			found[e]++
			if got, f := num.Round(a, digits, how); got != want || f != e {
				t.Fatalf("Round of %s to %d, %s: %q, %d, not %q, %d", a, digits, how, got, f, want, e)
			}
		}
	}
	if found[api.OK] < 50000 || found[api.ErrPlus] < 500 {
		t.Error(found)
	}
}

// someText returns a text by chance that perhaps has the form that Parse reads.
func someText(g *rand.Rand) string {
	s := pick(g, "", "", "+", "-")
	s += zeros(pick(g, 0, 0, 0, 1, 5, 100, 140)) + someDigits(g, pick(g, 0, 1, 2, 9, 29, 30, 30, 31, g.IntN(60)))
	if g.IntN(4) > 0 {
		s += "." + someDigits(g, pick(g, 0, 1, 9, 19, 20, 21, 21, 22, g.IntN(150))) + pick(g, "", "", zeros(g.IntN(60)))
	}
	for range pick(g, 0, 0, 0, 0, 1, 2) {
		i := g.IntN(len(s) + 1)
		s = s[:i] + pick(g, ".", "+", "-", "e", " ", "0", "9", "\xff", "\u0660", "/", ":") + s[i:]
	}
	return s
}

// parsed returns what Parse returns by its definition.
func parsed(s string) (string, api.Errno) {
	if len(s) > 200 {
		return "", api.ErrLong
	}
	if !parsedForm.MatchString(s) {
		return "", api.ErrForm
	}
	before, after, _ := strings.Cut(strings.TrimLeft(s, "+-"), ".")
	digits, _ := new(big.Int).SetString(before+after, 10)
	x := new(big.Rat).Mul(new(big.Rat).SetInt(digits), tenTo(-len(after)))
	if s[0] == '-' {
		x.Neg(x)
	}
	return result(x)
}

// P4.1: texts by chance, against the definition.
func TestParseDefinition(t *testing.T) {
	g := rand.New(rand.NewPCG(5, 6))
	found := map[api.Errno]int{}
	for range 40000 {
		s := someText(g)
		want, e := parsed(s)
		found[e]++
		if got, f := num.Parse(s); got != want || f != e {
			t.Fatalf("Parse of %q: %q, %d, not %q, %d", s, got, f, want, e)
		}
	}
	if found[api.OK] < 10000 || found[api.ErrForm] < 4000 || found[api.ErrPlus] < 2000 || found[api.ErrLong] < 1000 {
		t.Error(found)
	}
}

// P4.5, and which texts are canonical: texts by chance, most of which are nearly so.
func TestCanonicalDefinition(t *testing.T) {
	g := rand.New(rand.NewPCG(7, 8))
	found := map[bool]int{}
	for range 40000 {
		s := someNumber(g)
		switch g.IntN(4) {
		case 0:
			s = someText(g)
		case 1:
			i := g.IntN(len(s) + 1)
			s = s[:i] + pick(g, "", ".", "+", "-", "0", "0", "9", "x") + s[min(i+g.IntN(2), len(s)):]
		}
		want := api.ErrArg
		if isCanonical(s) {
			want = api.OK
		}
		found[want == api.OK]++
		if got, e := num.Neg(s); e != want || (got == "") != (e != api.OK) {
			t.Fatalf("Neg of %q: %q, %d", s, got, e)
		}
		for _, x := range [][2]string{{s, "1"}, {"1", s}} {
			if _, e := num.Cmp(x[0], x[1]); e != want {
				t.Fatalf("Cmp of %q and %q: %d", x[0], x[1], e)
			}
		}
		if got := num.IsInt(s); got != (want == api.OK && !strings.Contains(s, ".")) {
			t.Fatalf("IsInt of %q: %t", s, got)
		}
	}
	if found[true] < 10000 || found[false] < 5000 {
		t.Error(found)
	}
}
