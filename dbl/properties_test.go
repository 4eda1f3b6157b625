package dbl_test

import (
	"math"
	"math/big"
	"math/rand/v2"
	"strings"
	"testing"

	"chisel/api"
	"chisel/dbl"
	"chisel/num"
)

// op returns what an operation leads to that is one.
func op(t *testing.T, name string, a, b float64) float64 {
	t.Helper()
	f, ok := dbl.Op(name, a, b)
	if !ok {
		t.Fatal(name)
	}
	return f
}

// round returns what Round returns without an error.
func round(t *testing.T, f float64, digits int, how string) float64 {
	t.Helper()
	f, e := dbl.Round(f, digits, how)
	if e != api.OK {
		t.Fatal("error", e)
	}
	return f
}

// P5.6: there and back, with white space around.
func TestThereAndBack(t *testing.T) {
	g := rand.New(rand.NewPCG(11, 12))
	l := []float64{0, minusZero(), inf(), minusInf(), math.NaN(), math.MaxFloat64, 5e-324, normal, 1000000, 0.000001}
	for range 20000 {
		l = append(l, someDouble(g))
	}
	for _, f := range l {
		s := dbl.Text(f)
		if got, ok := dbl.Parse(s); !ok || !same(got, f) {
			t.Fatalf("Text of %b: %s, which is %b, %t", f, s, got, ok)
		}
		checkParse(t, []parse{{pick(g, spaces()...) + s + pick(g, spaces()...), f}})
	}
	for range 20000 {
		s := someText(g)
		f, ok := dbl.Parse(s)
		if again, is := dbl.Parse(pick(g, spaces()...) + s + pick(g, spaces()...)); !same(again, f) || is != ok {
			t.Fatalf("Parse of %q: %g, %t; with white space %g, %t", s, f, ok, again, is)
		}
	}
}

// someNumber returns the canonical text of a decimal number by chance.
func someNumber(g *rand.Rand) string {
	s, e := num.Parse(pick(g, "", "-") + someDigits(g, pick(g, 0, 1, 5, 16, 17, g.IntN(31))) + "." + someDigits(g, pick(g, 1, 5, 16, 20, 1+g.IntN(20))))
	if e != api.OK {
		panic(s)
	}
	return s
}

// near returns the canonical text of a number that differs from a by little, or by nothing.
func near(g *rand.Rand, a string) string {
	b, e := num.Add(a, pick(g, "0.00000000000000000001", "-0.00000000000000000001", "0.0000000000000001", "-0.000000001", "1", "0"))
	if e != api.OK {
		return someNumber(g)
	}
	return b
}

// P5.7: FromNum keeps the order of numbers, and returns what Parse returns; and it is the definition.
func TestOrder(t *testing.T) {
	g := rand.New(rand.NewPCG(13, 14))
	equal := 0
	for range 20000 {
		a := someNumber(g)
		b := pick(g, someNumber(g), near(g, a))
		var f [2]float64
		for i, s := range []string{a, b} {
			x, _ := new(big.Rat).SetString(s)
			var e api.Errno
			if f[i], e = dbl.FromNum(s); !same(f[i], nearest(x, false)) || e != api.OK {
				t.Fatalf("FromNum of %s: %b, %d", s, f[i], e)
			}
			checkParse(t, []parse{{s, f[i]}})
		}
		c, _ := num.Cmp(a, b)
		if c != 0 && f[0] == f[1] {
			equal++
		}
		if c < 0 && f[0] > f[1] || c > 0 && f[0] < f[1] || c == 0 && f[0] != f[1] {
			t.Fatalf("%s and %s: %b and %b", a, b, f[0], f[1])
		}
	}
	if equal < 1000 {
		t.Error("equal:", equal)
	}
}

// P5.3: what ToNum returns is a canonical text, and has the same double again if 20 digits after the point are enough for it.
func TestToNumAndBack(t *testing.T) {
	g := rand.New(rand.NewPCG(15, 16))
	numbers := 0
	for range 20000 {
		f := someDouble(g)
		s, e := dbl.ToNum(f)
		if e != api.OK {
			continue
		}
		again, e := dbl.FromNum(s)
		if e != api.OK {
			t.Fatalf("FromNum of %s: %d", s, e)
		}
		if math.Abs(f) >= 0.001 {
			numbers++
			if again != f {
				t.Fatalf("ToNum of %b: %s, which is %b", f, s, again)
			}
		}
	}
	if numbers < 5000 {
		t.Error("numbers:", numbers)
	}
}

// P5.8: remainders.
func TestRemainders(t *testing.T) {
	g := rand.New(rand.NewPCG(17, 18))
	smaller := 0
	for range 20000 {
		a := someDouble(g)
		b := someOther(g, a)
		if b == 0 {
			continue
		}
		rest := op(t, "mod", a, b)
		if math.Abs(rest) >= math.Abs(b) || math.Abs(rest) > math.Abs(a) || math.Signbit(rest) != math.Signbit(a) {
			t.Fatalf("%b mod %b: %b", a, b, rest)
		}
		if opposite := op(t, "mod", a, -b); !same(opposite, rest) {
			t.Fatalf("%b mod %b: %b; mod the opposite %b", a, b, rest, opposite)
		}
		if math.Abs(rest) < math.Abs(a) {
			smaller++
		}
	}
	if smaller < 5000 {
		t.Error("smaller:", smaller)
	}
}

// P5.9: floor and ceiling are in order, and each other's opposites; integers stay as they are.
func TestRoundings(t *testing.T) {
	g := rand.New(rand.NewPCG(19, 20))
	integers := 0
	for range 20000 {
		digits := g.IntN(51) - 30
		f := someDoubleToRound(g, digits)
		floor, ceiling := round(t, f, digits, "floor"), round(t, f, digits, "ceiling")
		if floor > f || ceiling < f {
			t.Fatalf("Round of %b to %d: %b, %b", f, digits, floor, ceiling)
		}
		if opposite := -round(t, -f, digits, "floor"); !same(opposite, ceiling) {
			t.Fatalf("Round of %b to %d: %b, not %b", f, digits, ceiling, opposite)
		}
		if f = math.Trunc(f); f == 0 || digits < 0 {
			continue
		}
		integers++
		checkRoundings(t, []roundings{{f, digits, [5]float64{f, f, f, f, f}}})
	}
	if integers < 2000 {
		t.Error("integers:", integers)
	}
}

// P5.2: other NaN have the same text, and are treated alike.
func TestNaN(t *testing.T) {
	for _, bits := range []uint64{0x7ff8000000000000, 0xfff8000000000000, 0x7ff0000000000001, 0xffffffffffffffff} {
		f := math.Float64frombits(bits)
		if s := dbl.Text(f); s != "NaN" {
			t.Errorf("Text of %x: %s", bits, s)
		}
		if s, e := dbl.ToNum(f); s != "" || e != api.ErrCast {
			t.Errorf("ToNum of %x: %q, %d", bits, s, e)
		}
		for _, name := range strings.Fields("+ - * div mod") {
			if got := op(t, name, f, 1); !math.IsNaN(got) {
				t.Errorf("%x %s 1: %g", bits, name, got)
			}
		}
	}
}
