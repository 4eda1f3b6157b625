package dbl_test

import (
	"math"
	"math/big"
	"math/rand/v2"
	"regexp"
	"strconv"
	"strings"
	"testing"

	"chisel/api"
	"chisel/dbl"
)

// rat returns the number that a finite double is.
func rat(f float64) *big.Rat { return new(big.Rat).SetFloat64(f) }

// tenTo returns 10^n, where n may be below 0.
func tenTo(n int) *big.Rat {
	p := new(big.Rat).SetInt(new(big.Int).Exp(big.NewInt(10), big.NewInt(int64(max(n, -n))), nil))
	if n < 0 {
		p.Inv(p)
	}
	return p
}

// nearest returns the double nearest to x; 0 with the given sign.
func nearest(x *big.Rat, below bool) float64 {
	f, _ := x.Float64()
	if f == 0 && below {
		return minusZero()
	}
	return f
}

// floor returns the greatest whole number that is not above x.
func floor(x *big.Rat) *big.Int {
	// Div rounds down, since denominators are above 0.
	return new(big.Int).Div(x.Num(), x.Denom())
}

// whole returns x without its fraction.
func whole(x *big.Rat) *big.Rat {
	return new(big.Rat).SetInt(new(big.Int).Quo(x.Num(), x.Denom()))
}

// plain returns a number whose denominator has no prime factors but 2 and 5 as a decimal number.
func plain(x *big.Rat) string {
	s := x.FloatString(x.Denom().BitLen())
	return strings.TrimSuffix(strings.TrimRight(s, "0"), ".")
}

// middleOf returns the number in the middle between two doubles as a decimal number, where INF counts as 2^1024.
func middleOf(a, b float64) string {
	above := new(big.Rat).SetInt(new(big.Int).Lsh(big.NewInt(1), 1024))
	if !math.IsInf(b, 0) {
		above = rat(b)
	}
	sum := above.Add(above, rat(a))
	return plain(sum.Mul(sum, big.NewRat(1, 2)))
}

// roundTo rounds x to so many digits, by the definition of chapter 4.
func roundTo(x *big.Rat, digits int, how string) *big.Rat {
	quotient := new(big.Rat).Quo(x, tenTo(-digits))
	low := floor(quotient)
	high := new(big.Int).Neg(floor(new(big.Rat).Neg(quotient)))
	toLow := new(big.Rat).Sub(quotient, new(big.Rat).SetInt(low))
	toHigh := new(big.Rat).Sub(new(big.Rat).SetInt(high), quotient)
	chosen := low
	switch c := toLow.Cmp(toHigh); {
	case how == "ceiling", how == "cut" && x.Sign() < 0:
		chosen = high
	case how == "floor", how == "cut", c < 0:
	case c > 0, how == "half", low.Bit(0) == 1:
		chosen = high
	}
	return new(big.Rat).Mul(new(big.Rat).SetInt(chosen), tenTo(-digits))
}

// pick returns one of l.
func pick[T any](g *rand.Rand, l ...T) T { return l[g.IntN(len(l))] }

// someDouble returns a finite double by chance, often one at a limit or with few digits in base 2 or 10.
func someDouble(g *rand.Rand) float64 {
	exponent, mantissa := g.Uint64N(0x7ff), g.Uint64N(1<<52)
	switch g.IntN(8) {
	case 0:
		exponent = pick[uint64](g, 0, 0, 1, 2, 0x7fe, 0x3fe, 0x3ff, 0x400)
	case 1, 2, 3:
		// Numbers of 10^-21 to 10^31.
		exponent = 0x3ff - 70 + g.Uint64N(174)
	case 4:
		// Numbers of 10^-7 to 10^7.
		exponent = 0x3ff - 24 + g.Uint64N(48)
	case 5:
		number := strconv.Itoa(g.IntN(pick(g, 10, 100, 10000, 1<<30))) + "e" + strconv.Itoa(pick(g, g.IntN(45)-22, g.IntN(5)-3, g.IntN(600)-300))
		f, _ := strconv.ParseFloat(pick(g, "", "-")+number, 64)
		return f
	}
	switch g.IntN(6) {
	case 0:
		mantissa = pick[uint64](g, 0, 1, 2, 1<<51, 1<<52-1, 1<<52-2)
	case 1:
		mantissa &= uint64(math.MaxUint64) << g.IntN(52)
	}
	return double(g.IntN(2) == 0, exponent, mantissa)
}

// someDigits returns n digits by chance.
func someDigits(g *rand.Rand, n int) string {
	s := ""
	for range n {
		s += string(rune('0' + pick(g, 0, 5, 9, g.IntN(10))))
	}
	return s
}

// shifted returns a number with its point moved by some digits, and an exponent that makes up for it.
func shifted(g *rand.Rand, s string) string {
	before, after, _ := strings.Cut(s, ".")
	digits, point := before+after, len(before)
	by := pick(g, 0, 0, 1, point, -1, g.IntN(20), g.IntN(800)-400)
	if point -= by; point < 0 {
		digits, point = zeros(-point)+digits, 0
	}
	if point > len(digits) {
		digits += zeros(point - len(digits))
	}
	s = digits[:point] + "." + digits[point:]
	if by == 0 && g.IntN(2) == 0 {
		return s
	}
	sign := pick(g, "", "+")
	if by < 0 {
		sign, by = "-", -by
	}
	return s + pick(g, "E", "e") + sign + zeros(pick(g, 0, 0, 1, 5)) + strconv.Itoa(by)
}

// someText returns a text by chance that perhaps is a number, which is often near to the middle between two doubles.
func someText(g *rand.Rand) string {
	s := someDigits(g, pick(g, 0, 1, 2, 3, 17, g.IntN(60)))
	if g.IntN(3) > 0 {
		s += "." + someDigits(g, pick(g, 0, 1, 2, 3, 17, g.IntN(60)))
	}
	if g.IntN(2) == 0 {
		s += pick(g, "e", "E") + pick(g, "", "+", "-") + zeros(pick(g, 0, 0, 1, 5)) + strconv.Itoa(g.IntN(pick(g, 5, 30, 400)))
	}
	if f := math.Abs(someDouble(g)); g.IntN(2) == 0 && f < math.MaxFloat64 {
		s = plain(rat(f))
		if g.IntN(3) > 0 {
			s = middleOf(f, math.Nextafter(f, inf()))
		}
		if strings.Contains(s, ".") && g.IntN(2) == 0 {
			s = pick(g, s+zeros(g.IntN(900))+"1", s[:len(s)-1]+"4"+nines(g.IntN(900)), s+zeros(g.IntN(900)))
		}
		s = shifted(g, s)
	}
	s = pick(g, "", "", "+", "-") + s
	for range pick(g, 0, 0, 0, 0, 0, 1, 2) {
		i := g.IntN(len(s) + 1)
		s = s[:i] + pick(g, ".", "+", "-", "e", "E", " ", "\n", "0", "9", "\xff", "\u0660", "/", ":", "_", "x") + s[i:]
	}
	return pick(g, "", "", "", " ", "\t\r\n") + s + pick(g, "", "", "", " ", "\n \n")
}

// numberForm is the form of a number in a text: its sign, its digits before and after the point, or after it alone, and its exponent.
var numberForm = regexp.MustCompile(`^[\t\n\r ]*([+-]?)(?:([0-9]+)(?:\.([0-9]*))?|\.([0-9]+))(?:[Ee]([+-]?[0-9]+))?[\t\n\r ]*$`)

// parsed returns what Parse returns by its definition.
func parsed(s string) (float64, bool) {
	m := numberForm.FindStringSubmatch(s)
	if m == nil {
		return 0, false
	}
	digits, _ := new(big.Int).SetString(m[2]+m[3]+m[4], 10)
	// With an exponent of 5000, all texts of these tests are far away from the doubles.
	exponent, _ := strconv.Atoi(m[5])
	exponent = max(-5000, min(exponent, 5000))
	x := new(big.Rat).Mul(new(big.Rat).SetInt(digits), tenTo(exponent-len(m[3]+m[4])))
	if m[1] == "-" {
		x.Neg(x)
	}
	return nearest(x, m[1] == "-"), true
}

// P5.1: texts by chance, against the definition.
func TestParseDefinition(t *testing.T) {
	g := rand.New(rand.NewPCG(1, 2))
	found := map[string]int{}
	for range 30000 {
		s := someText(g)
		want, is := parsed(s)
		switch {
		case !is:
			found["none"]++
		case want == 0:
			found["0"]++
		case math.IsInf(want, 0):
			found["INF"]++
		default:
			found["number"]++
		}
		if got, ok := dbl.Parse(s); !same(got, want) || ok != is {
			t.Fatalf("Parse of %q: %g, %t, not %g, %t", s, got, ok, want, is)
		}
	}
	if found["none"] < 1000 || found["0"] < 500 || found["INF"] < 200 || found["number"] < 10000 {
		t.Error(found)
	}
}

// digitsOf returns the digits of a double above 0 by their definition, and the power of 10 of the first one; ties is how often two numbers were equally near.
func digitsOf(f float64, ties *int) (digits string, power int) {
	x := rat(f)
	power = int(math.Floor(math.Log10(f)))
	for tenTo(power).Cmp(x) > 0 {
		power--
	}
	for tenTo(power+1).Cmp(x) <= 0 {
		power++
	}
	for count := 1; ; count++ {
		unit := tenTo(power - count + 1)
		low := floor(new(big.Rat).Quo(x, unit))
		var best *big.Int
		distance := new(big.Rat)
		for k := range 2 {
			c := new(big.Int).Add(low, big.NewInt(int64(k)))
			number := new(big.Rat).Mul(new(big.Rat).SetInt(c), unit)
			if g, _ := number.Float64(); g != f {
				continue
			}
			d := number.Abs(number.Sub(number, x))
			order := 1
			if best != nil {
				order = distance.Cmp(d)
			}
			if best != nil && order == 0 {
				*ties++
			}
			if order > 0 || order == 0 && c.Bit(0) == 0 {
				best, distance = c, d
			}
		}
		if best != nil {
			s := best.String()
			return strings.TrimRight(s, "0"), power + len(s) - count
		}
	}
}

// canonical returns the canonical text of a finite double by its definition.
func canonical(f float64, ties *int) string {
	if math.Signbit(f) {
		return "-" + canonical(-f, ties)
	}
	if f == 0 {
		return "0"
	}
	digits, power := digitsOf(f, ties)
	if rat(f).Cmp(rat(0.000001)) >= 0 && rat(f).Cmp(rat(1000000)) < 0 {
		number, _ := new(big.Rat).SetString(digits)
		return plain(number.Mul(number, tenTo(power-len(digits)+1)))
	}
	rest := digits[1:]
	if rest == "" {
		rest = "0"
	}
	return digits[:1] + "." + rest + "E" + strconv.Itoa(power)
}

// P5.2: doubles by chance and all powers of 2, against the definition.
func TestTextDefinition(t *testing.T) {
	g := rand.New(rand.NewPCG(3, 4))
	var l []float64
	for exponent := range uint64(0x7ff) {
		l = append(l, double(false, exponent, 0))
	}
	for digit := range 52 {
		l = append(l, double(false, 0, 1<<digit))
	}
	for range 4000 {
		l = append(l, someDouble(g))
	}
	for range 1000 {
		// Of these, two numbers are often equally near.
		l = append(l, double(false, 0x3ff+52-g.Uint64N(8), g.Uint64N(1<<52)))
	}
	ties := 0
	for _, f := range l {
		if got, want := dbl.Text(f), canonical(f, &ties); got != want {
			t.Fatalf("Text of %b: %s, not %s", f, got, want)
		}
	}
	if ties < 50 {
		t.Error("ties:", ties)
	}
}

// P5.3: doubles by chance, against the definition.
func TestToNumDefinition(t *testing.T) {
	g := rand.New(rand.NewPCG(5, 6))
	found := map[api.Errno]int{}
	for range 20000 {
		f := someDouble(g)
		if g.IntN(4) == 0 {
			// A number in the middle between two multiples of 10^-20.
			f = math.Ldexp(float64(2*g.IntN(pick(g, 8, 1<<21, 1<<52))+1), -21)
		}
		x := roundTo(rat(f), 20, "even")
		want, e := strings.TrimPrefix(plain(x), "-"), api.OK
		if before, _, _ := strings.Cut(want, "."); len(before) > 30 {
			want, e = "", api.ErrPlus
		} else if x.Sign() < 0 {
			want = "-" + want
		}
		found[e]++
		if got, h := dbl.ToNum(f); got != want || h != e {
			t.Fatalf("ToNum of %b: %q, %d, not %q, %d", f, got, h, want, e)
		}
	}
	if found[api.OK] < 8000 || found[api.ErrPlus] < 1000 {
		t.Error(found)
	}
}

// someOther returns a finite double by chance, which is often near to a or to a multiple of it.
func someOther(g *rand.Rand, a float64) float64 {
	if b := a * pick(g, 1, -1, 2, 0.5, 3, -7, 0.1, 1e10, float64(1+g.IntN(1000))); g.IntN(2) == 0 && !math.IsInf(b, 0) {
		return pick(g, b, b, math.Nextafter(b, 0), math.Copysign(5e-324*float64(1+g.IntN(10)), b))
	}
	return someDouble(g)
}

// P5.4: operations of finite doubles by chance, against the definition; a sum 0 is -0 only if both are.
func TestOpDefinition(t *testing.T) {
	g := rand.New(rand.NewPCG(7, 8))
	found := map[string]int{}
	for range 10000 {
		a := someDouble(g)
		b := someOther(g, a)
		if g.IntN(2) == 0 {
			a, b = b, a
		}
		x, y, unlike := rat(a), rat(b), math.Signbit(a) != math.Signbit(b)
		check := func(op string, exact *big.Rat, below bool) {
			want := nearest(exact, below)
			if want == 0 {
				found[op+" 0"]++
			}
			if got, ok := dbl.Op(op, a, b); !ok || !same(got, want) {
				t.Fatalf("%b %s %b: %b, %t, not %b", a, op, b, got, ok, want)
			}
		}
		sum, difference := new(big.Rat).Add(x, y), new(big.Rat).Sub(x, y)
		check("+", sum, a == 0 && b == 0 && math.Signbit(a) && math.Signbit(b))
		check("-", difference, a == 0 && b == 0 && math.Signbit(a) && !math.Signbit(b))
		check("*", new(big.Rat).Mul(x, y), unlike)
		if b == 0 {
			continue
		}
		quotient := new(big.Rat).Quo(x, y)
		check("div", quotient, unlike)
		rest := new(big.Rat).Sub(x, new(big.Rat).Mul(y, whole(quotient)))
		if f, exact := rest.Float64(); !exact {
			t.Fatalf("%b mod %b: %b is not exact", a, b, f)
		}
		check("mod", rest, math.Signbit(a))
		found["mod"]++
	}
	if found["mod"] < 8000 || found["mod 0"] < 500 || found["+ 0"] < 100 || found["* 0"] < 200 || found["div 0"] < 200 {
		t.Error(found)
	}
}

// someDoubleToRound returns a double by chance that is often in the middle between two multiples of 10^-digits, or the nearest one to a number there.
func someDoubleToRound(g *rand.Rand, digits int) float64 {
	times := int64(g.IntN(pick(g, 4, 200, 1<<20)))
	f, _ := new(big.Rat).Mul(tenTo(-digits), big.NewRat(pick(g, 2*times+1, 2*times+1, 2*times), 2)).Float64()
	f = pick(g, f, f, math.Nextafter(f, inf()), math.Nextafter(f, minusInf()))
	return pick(g, f, -f, someDouble(g))
}

// P5.5: doubles by chance, against the definition.
func TestRoundDefinition(t *testing.T) {
	g := rand.New(rand.NewPCG(9, 10))
	halves, zero := 0, 0
	for range 15000 {
		digits := pick(g, 0, g.IntN(51)-30, g.IntN(21)-10)
		f := someDoubleToRound(g, digits)
		if rest := new(big.Rat).Sub(rat(f), roundTo(rat(f), digits, "floor")); rest.Mul(rest, big.NewRat(2, 1)).Cmp(tenTo(-digits)) == 0 {
			halves++
		}
		for _, how := range ways() {
			want := nearest(roundTo(rat(f), digits, how), math.Signbit(f))
			if want == 0 {
				zero++
			}
			if got, e := dbl.Round(f, digits, how); !same(got, want) || e != api.OK {
				t.Fatalf("Round of %b to %d, %s: %b, %d, not %b", f, digits, how, got, e, want)
			}
		}
	}
	if halves < 500 || zero < 500 {
		t.Error(halves, zero)
	}
}
