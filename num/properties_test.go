package num_test

import (
	"math/big"
	"math/rand/v2"
	"strings"
	"testing"

	"chisel/api"
	"chisel/num"
)

// number returns what a function returns that has no error here.
func number(t *testing.T) func(s string, e api.Errno) string {
	return func(s string, e api.Errno) string {
		t.Helper()
		if e != api.OK {
			t.Fatal("error", e)
		}
		return s
	}
}

// P4.7: what a function returns as a number is a canonical text, and Parse of it is itself.
func TestResultsAreCanonical(t *testing.T) {
	g := rand.New(rand.NewPCG(9, 10))
	numbers := 0
	check := func(s string, e api.Errno) {
		t.Helper()
		if e != api.OK {
			return
		}
		numbers++
		if again, e := num.Parse(s); !isCanonical(s) || again != s || e != api.OK {
			t.Fatalf("%q: Parse returns %q, %d", s, again, e)
		}
	}
	for range 10000 {
		a, b := somePair(g)
		for _, f := range []binary{num.Add, num.Sub, num.Mul, num.Div, num.IDiv, num.Mod} {
			check(f(a, b))
		}
		check(num.Neg(a))
		check(num.Parse(someText(g)))
		for _, how := range ways() {
			check(num.Round(a, g.IntN(51)-30, how))
		}
	}
	if numbers < 50000 {
		t.Error("numbers:", numbers)
	}
}

// P4.8: sums and products.
func TestSumsAndProducts(t *testing.T) {
	g := rand.New(rand.NewPCG(11, 12))
	sums := 0
	for range 20000 {
		a, b := somePair(g)
		for name, f := range map[string]binary{"Add": num.Add, "Mul": num.Mul} {
			s, e := f(a, b)
			if u, f := f(b, a); u != s || f != e {
				t.Fatalf("%s of %s and %s: %q, %d; in the other order %q, %d", name, a, b, s, e, u, f)
			}
		}
		if s, e := num.Add(a, b); e == api.OK {
			sums++
			if u, e := num.Sub(s, b); u != a || e != api.OK {
				t.Fatalf("%s + %s - %s: %q, %d", a, b, b, u, e)
			}
		}
		if s := number(t)(num.Neg(number(t)(num.Neg(a)))); s != a {
			t.Fatalf("Neg of Neg of %s: %q", a, s)
		}
	}
	if sums < 10000 {
		t.Error("sums:", sums)
	}
}

// P4.9: quotients and remainders.
func TestQuotients(t *testing.T) {
	g := rand.New(rand.NewPCG(13, 14))
	quotients, whole := 0, 0
	for range 20000 {
		a, b := somePair(g)
		q, e := num.IDiv(a, b)
		if e != api.OK {
			continue
		}
		quotients++
		r := number(t)(num.Mod(a, b))
		if !num.IsInt(q) {
			t.Fatalf("IDiv of %s and %s: %q", a, b, q)
		}
		if r == "0" {
			whole++
		} else if strings.HasPrefix(r, "-") != strings.HasPrefix(a, "-") {
			t.Fatalf("Mod of %s and %s: %q", a, b, r)
		}
		if c, e := num.Cmp(strings.TrimPrefix(r, "-"), strings.TrimPrefix(b, "-")); c != -1 || e != api.OK {
			t.Fatalf("Mod of %s and %s: %q", a, b, r)
		}
		if product, e := num.Mul(b, q); e == api.OK {
			if s := number(t)(num.Add(r, product)); s != a {
				t.Fatalf("%s times %s, and %s: %q, not %s", b, q, r, s, a)
			}
		}
	}
	if quotients < 10000 || whole < 1000 {
		t.Error(quotients, whole)
	}
}

// P4.10: rounded numbers.
func TestRoundings(t *testing.T) {
	g := rand.New(rand.NewPCG(15, 16))
	rounded := 0
	for range 20000 {
		a, digits := someNumber(g), g.IntN(51)-30
		for _, how := range ways() {
			s, e := num.Round(a, digits, how)
			if e != api.OK {
				continue
			}
			rounded++
			if u, e := num.Round(s, digits, how); u != s || e != api.OK {
				t.Fatalf("Round of %s to %d, %s: %q, then %q, %d", a, digits, how, s, u, e)
			}
			difference, unit := new(big.Rat).Sub(rat(s), rat(a)), tenTo(-digits)
			if how == "floor" && difference.Sign() > 0 || how == "ceiling" && difference.Sign() < 0 {
				t.Fatalf("Round of %s to %d, %s: %q", a, digits, how, s)
			}
			difference.Abs(difference)
			near := difference.Cmp(unit) < 0
			if how == "half" || how == "even" {
				near = difference.Add(difference, difference).Cmp(unit) <= 0
			}
			if !near {
				t.Fatalf("Round of %s to %d, %s: %q", a, digits, how, s)
			}
		}
		down, e := num.Round(a, digits, "floor")
		up, f := num.Round(number(t)(num.Neg(a)), digits, "ceiling")
		if e == api.OK {
			down = number(t)(num.Neg(down))
		}
		if down != up || e != f {
			t.Fatalf("Round of %s and its opposite to %d: %q, %d, %q, %d", a, digits, down, e, up, f)
		}
	}
	if rounded < 50000 {
		t.Error("rounded:", rounded)
	}
}
