package atom_test

import (
	"math"
	"math/big"
	"math/rand/v2"
	"strconv"
	"strings"
	"testing"
	calendar "time"

	"chisel/api"
	"chisel/atom"
)

// pick returns one of l.
func pick[T any](g *rand.Rand, l ...T) T { return l[g.IntN(len(l))] }

// someKind returns a kind by chance.
func someKind(g *rand.Rand) int { return g.IntN(len(names())) }

// someDigits returns up to n digits by chance.
func someDigits(g *rand.Rand, n int) string {
	s := ""
	for range g.IntN(n + 1) {
		s += string(rune('0' + pick(g, 0, 5, 9, g.IntN(10))))
	}
	return s
}

// someNumber returns the canonical text of a number by chance, with so many digits after the point at most.
func someNumber(g *rand.Rand, after int) string {
	s := pick(g, "", "-") + "0" + someDigits(g, pick(g, 1, 1, 2, 10, 20, 30))
	if after > 0 {
		s += "." + someDigits(g, pick(g, 1, 2, after)) + "0"
	}
	text, e := definedNumber(rat(s))
	if e != api.OK {
		panic(s)
	}
	return text
}

// someDouble returns a double by chance.
func someDouble(g *rand.Rand) float64 {
	switch g.IntN(6) {
	case 0:
		return pick(g, 0, math.Copysign(0, -1), 1, -1, math.Inf(1), math.Inf(-1), math.NaN(), math.MaxFloat64, math.SmallestNonzeroFloat64, 1e30, 1e29, 1e-20)
	case 1, 2:
		f, _ := strconv.ParseFloat(someNumber(g, 20), 64)
		return f
	case 3:
		return pick(g, 1.0, -1.0) * float64(g.IntN(64)) / pick(g, 1.0, 2, 4, 8)
	case 4:
		// From about 10^-21 to about 10^31.
		return pick(g, 1.0, -1.0) * math.Ldexp(1+g.Float64(), g.IntN(174)-70)
	}
	return math.Float64frombits(g.Uint64())
}

// someMoment returns the canonical text of a moment by chance.
func someMoment(g *rand.Rand, kind int) string {
	const micros = 86400 * 1000000
	local := calendar.Date(pick(g, 1, 4, 1900, 1970, 2000, 2024, 2026, 9999, 1+g.IntN(9999), 1+g.IntN(9999)), calendar.Month(pick(g, 1, 2, 12, 1+g.IntN(12))), 1+g.IntN(28), 0, 0, 0, 0, calendar.UTC)
	if g.IntN(3) == 0 {
		// The last day of the month.
		local = local.AddDate(0, 1, -local.Day())
	}
	local = local.Add(calendar.Duration(pick(g, 0, 0, micros-1, g.IntN(micros), g.IntN(86400)*1000000, g.IntN(864000)*100000)) * calendar.Microsecond)
	zone := pick(g, "", "", "Z", "+14:00", "-14:00")
	if g.IntN(2) == 0 {
		minutes := g.IntN(839) + 1
		zone = pick(g, "+", "-") + strconv.Itoa(100 + minutes/60)[1:] + ":" + strconv.Itoa(100 + minutes%60)[1:]
	}
	return writeMoment(kind, local, zone)
}

// someAtom returns a valid value of a kind by chance.
func someAtom(g *rand.Rand, kind int) api.Atom {
	if g.IntN(8) == 0 {
		return api.Atom{Kind: kind, Text: pick(g, canonical[names()[kind]]...)}
	}
	s := ""
	switch kind {
	case api.AtomUntyped, api.AtomString:
		for range g.IntN(4) {
			s += pick(g, "a", "b", "A", " ", "\n", "é", "\uffee", "\U00010000", "0", "1")
		}
		if g.IntN(2) == 0 {
			s = someAtom(g, 2+g.IntN(9)).Text
		}
	case api.AtomBool:
		s = pick(g, "true", "false")
	case api.AtomInteger:
		s = someNumber(g, 0)
	case api.AtomDecimal:
		s = someNumber(g, 20)
	case api.AtomDouble:
		s = definedDouble(someDouble(g))
	case api.AtomMonths:
		n := rat(strconv.Itoa(g.IntN(pick(g, 2, 13, 100, 100000, 10000000000)) * pick(g, 1, -1)))
		s, _ = definedDuration(kind, n)
	case api.AtomSeconds:
		s, _ = definedDuration(kind, rat(pick(g, someNumber(g, 20), someNumber(g, 6), strconv.Itoa(g.IntN(pick(g, 2, 100, 100000, 1<<40))*pick(g, 1, -1)))))
	default:
		s = someMoment(g, kind)
	}
	return api.Atom{Kind: kind, Text: s}
}

// related returns a valid value by chance that is often equal to a, or nearly so.
func related(g *rand.Rand, a api.Atom) api.Atom {
	switch g.IntN(6) {
	case 0:
		return a
	case 1, 2:
		if b, e := definedCast(a, someKind(g)); e == api.OK {
			return b
		}
	case 3:
		if b, e := definedCast(a, pick(g, api.AtomInteger, api.AtomDecimal, api.AtomDouble)); number(a.Kind) && e == api.OK {
			c := someAtom(g, pick(g, api.AtomInteger, api.AtomDecimal))
			c.Text = pick(g, "0", "1", "-1", c.Text)
			if d, e := definedArith(pick(g, "+", "-", "*"), b, c); e == api.OK {
				return d
			}
		}
	case 4:
		if !moment(a.Kind) {
			break
		}
		// The same time in another zone, or nearly so.
		local, zone, _ := readMoment(a.Kind, a.Text)
		hours := g.IntN(14) + 1
		local = local.Add(calendar.Duration(hours)*calendar.Hour + calendar.Duration(pick(g, 0, 0, 1, -1))*calendar.Microsecond)
		if (zone == "" || zone == "Z") && local.Year() < 10000 {
			return api.Atom{Kind: a.Kind, Text: writeMoment(a.Kind, local, "+"+strconv.Itoa(100 + hours)[1:]+":00")}
		}
	}
	return someAtom(g, a.Kind)
}

// changed returns s, often with a few bytes put in, left out or replaced.
func changed(g *rand.Rand, s string) string {
	for range pick(g, 0, 0, 0, 1, 1, 2) {
		i := g.IntN(len(s) + 1)
		s = s[:i] + pick(g, "", "-", "+", ".", "0", "1", "9", "E", "e", ":", "T", "Z", "P", "D", "S", "M", "Y", "H", " ", "\n", "\t", "\u00a0", "\x00", "\xff", "\u0661", "00") + s[min(i+g.IntN(2), len(s)):]
	}
	return s
}

// P8.1: texts by chance, against the definition.
func TestValidDefinition(t *testing.T) {
	g := rand.New(rand.NewPCG(1, 2))
	found := map[[2]bool]int{}
	for range 100000 {
		a := someAtom(g, someKind(g))
		if !atom.Valid(a) || !definedValid(a) {
			t.Fatalf("%v is not valid", a)
		}
		a.Text = changed(g, a.Text)
		a.Kind = pick(g, a.Kind, a.Kind, a.Kind, someKind(g), someKind(g), g.IntN(30)-10)
		want := definedValid(a)
		found[[2]bool{a.Kind > api.AtomString, want}]++
		if got := atom.Valid(a); got != want {
			t.Fatalf("Valid of %d %q: %t", a.Kind, a.Text, got)
		}
	}
	if len(found) != 4 || found[[2]bool{true, true}] < 20000 || found[[2]bool{true, false}] < 40000 || found[[2]bool{false, false}] < 1000 {
		t.Error(found)
	}
}

// spaced returns s with white space around it, or not.
func spaced(g *rand.Rand, s string) string {
	return pick(g, "", "", " ", "\t", "\r\n", " \n ") + s + pick(g, "", "", " ", "\n", "\t\r", "   ")
}

// P8.2: values and kinds by chance, against the definition; for strings, texts that are nearly those of other kinds.
func TestCastDefinition(t *testing.T) {
	g := rand.New(rand.NewPCG(3, 4))
	found := map[api.Errno]int{}
	read := map[int]int{}
	for range 150000 {
		kind := someKind(g)
		a := someAtom(g, someKind(g))
		if g.IntN(2) == 0 {
			b := someAtom(g, max(kind, api.AtomBool))
			a = api.Atom{Kind: pick(g, api.AtomUntyped, api.AtomString), Text: spaced(g, changed(g, b.Text))}
			if number(b.Kind) && g.IntN(3) == 0 {
				a.Text = spaced(g, pick(g, "+", "-", "", "00", "-0")+strings.TrimPrefix(b.Text, "-")+pick(g, "", ".", "0", ".0", "e5", "E-30", "4", "5", "6", "000001"))
			}
		}
		want, e := definedCast(a, kind)
		found[e]++
		if a.Kind <= api.AtomString && e == api.OK {
			read[kind]++
		}
		if got, f := atom.Cast(a, kind); got != want || f != e {
			t.Fatalf("Cast of %d %q to %d: %v, %d, not %v, %d", a.Kind, a.Text, kind, got, f, want, e)
		}
	}
	if found[api.OK] < 50000 || found[api.ErrCast] < 50000 || found[api.ErrArg] < 500 {
		t.Error(found)
	}
	for kind, name := range names() {
		if read[kind] < 2000 {
			t.Error(name, read)
		}
	}
}

// P8.3: values by chance, against the definition.
func TestCompareDefinition(t *testing.T) {
	g := rand.New(rand.NewPCG(5, 6))
	found := map[int]map[int]int{}
	for range 40000 {
		a := someAtom(g, someKind(g))
		b := related(g, a)
		order, e := definedOrder(a, b)
		for op, holds := range comparisons() {
			want := e == api.OK && holds[order+1]
			if got, f := atom.Compare(op, a, b); got != want || f != e {
				t.Fatalf("%v %s %v: %t, %d, not %t, %d", a, op, b, got, f, want, e)
			}
		}
		if e != api.OK {
			order = 3
		}
		if found[a.Kind] == nil {
			found[a.Kind] = map[int]int{}
		}
		found[a.Kind][order]++
	}
	for kind, name := range names() {
		if l := found[kind]; l[-1] < 300 || l[0] < 300 || l[1] < 300 || l[3] < 50 || l[2] < 50 && kind == api.AtomDouble {
			t.Error(name, l)
		}
	}
}

// P8.4, P8.5: values by chance, against the definition.
func TestArithDefinition(t *testing.T) {
	g := rand.New(rand.NewPCG(7, 8))
	found := map[string]int{}
	errors := map[api.Errno]int{}
	for range 100000 {
		op := pick(g, operators()...)
		a, b := someAtom(g, someKind(g)), someAtom(g, someKind(g))
		if words := strings.Fields(pick(g, arithKinds...)); g.IntN(5) > 0 {
			op, a, b = words[1], someAtom(g, kindOf(words[0])), someAtom(g, kindOf(words[2]))
		}
		if g.IntN(6) == 0 && a.Kind == b.Kind {
			b = related(g, a)
		}
		want, e := definedArith(op, a, b)
		errors[e]++
		if e == api.OK {
			found[names()[a.Kind]+" "+op+" "+names()[b.Kind]+" "+names()[want.Kind]]++
		}
		if got, f := atom.Arith(op, a, b); got != want || f != e {
			t.Fatalf("%v %s %v: %v, %d, not %v, %d", a, op, b, got, f, want, e)
		}
	}
	for _, s := range arithKinds {
		if found[s] < 300 {
			t.Error(s, found[s])
		}
	}
	for _, e := range []api.Errno{api.ErrType, api.ErrRange, api.ErrPlus, api.ErrDiv, api.ErrCast} {
		if errors[e] < 500 {
			t.Error(e, errors)
		}
	}
}

// P8.6: values by chance, against the definition.
func TestNegDefinition(t *testing.T) {
	g := rand.New(rand.NewPCG(9, 10))
	for range 50000 {
		a := someAtom(g, pick(g, api.AtomInteger, api.AtomDecimal, api.AtomDouble, someKind(g)))
		want, e := definedNeg(a)
		if got, f := atom.Neg(a); got != want || f != e {
			t.Fatalf("Neg of %v: %v, %d, not %v, %d", a, got, f, want, e)
		}
	}
}

// P8.7: values by chance, against the definition.
func TestSameDefinition(t *testing.T) {
	g := rand.New(rand.NewPCG(11, 12))
	found := map[[2]int]int{}
	mixed := 0
	for range 100000 {
		a := someAtom(g, someKind(g))
		b := related(g, a)
		if g.IntN(20) == 0 {
			b.Text = changed(g, b.Text)
		}
		want := definedSame(a, b)
		if got := atom.Same(a, b); got != want {
			t.Fatalf("Same of %v and %v: %t", a, b, got)
		}
		if want {
			found[[2]int{a.Kind, b.Kind}]++
		}
		if !want && exact(a.Kind) && b.Kind == api.AtomDouble {
			mixed++
		}
	}
	for a := range names() {
		for b := range names() {
			alike := a == b || number(a) && number(b) || a <= api.AtomString && b <= api.AtomString
			if n := found[[2]int{a, b}]; alike && n < 80 || !alike && n > 0 {
				t.Error(names()[a], names()[b], n)
			}
		}
	}
	if mixed < 500 {
		t.Error(mixed)
	}
}

// P8.7: exact numbers and doubles around each other: each double with the exact numbers next to it, in units of 10^-20.
func TestSameNeighbours(t *testing.T) {
	g := rand.New(rand.NewPCG(13, 14))
	found := map[bool]int{}
	for range 30000 {
		d := api.Atom{Kind: api.AtomDouble, Text: definedDouble(someDouble(g))}
		x, ok := definedDecimal(d)
		if !ok {
			continue
		}
		for unit := -1; unit <= 1; unit++ {
			near := new(big.Rat).Add(x, new(big.Rat).Mul(rat(least), big.NewRat(int64(unit), 1)))
			s, e := definedNumber(near)
			if e != api.OK {
				continue
			}
			n := api.Atom{Kind: api.AtomDecimal, Text: s}
			want := definedSame(n, d)
			found[want]++
			if want && unit != 0 {
				t.Fatalf("%v and %v are not the same key", n, d)
			}
			if atom.Same(n, d) != want || atom.Same(d, n) != want {
				t.Fatalf("Same of %v and %v: %t", n, d, !want)
			}
		}
	}
	if found[true] < 5000 || found[false] < 5000 {
		t.Error(found)
	}
}
