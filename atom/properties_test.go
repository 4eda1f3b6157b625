package atom_test

import (
	"math/rand/v2"
	"slices"
	"testing"

	"chisel/api"
	"chisel/atom"
)

// somePair returns two values by chance, which can often be computed with, and are often related.
func somePair(g *rand.Rand) (a, b api.Atom) {
	a = someAtom(g, someKind(g))
	if g.IntN(2) == 0 {
		return a, related(g, a)
	}
	return a, someAtom(g, someKind(g))
}

// P8.8: a value that is converted to a string is read as the same value.
func TestThereAndBack(t *testing.T) {
	g := rand.New(rand.NewPCG(21, 22))
	check := func(a api.Atom) {
		for _, kind := range []int{api.AtomString, api.AtomUntyped} {
			s, e := atom.Cast(a, kind)
			if s != (api.Atom{Kind: kind, Text: a.Text}) || e != api.OK {
				t.Fatalf("Cast of %v to %d: %v, %d", a, kind, s, e)
			}
			if back, e := atom.Cast(s, a.Kind); back != a || e != api.OK {
				t.Fatalf("Cast of %v to %d: %v, %d, not %v", s, a.Kind, back, e, a)
			}
		}
	}
	for _, a := range values() {
		check(a)
	}
	for range 50000 {
		check(someAtom(g, someKind(g)))
	}
}

// P8.8, P1: what Cast, Arith and Neg return is valid, and zero together with an error.
func TestResults(t *testing.T) {
	g := rand.New(rand.NewPCG(23, 24))
	found := 0
	check := func(a api.Atom, e api.Errno) {
		t.Helper()
		if e == api.OK {
			found++
		}
		if e == api.OK && (!atom.Valid(a) || !definedValid(a)) || e != api.OK && a != (api.Atom{}) {
			t.Fatalf("%v, %d", a, e)
		}
	}
	for range 40000 {
		a, b := somePair(g)
		if g.IntN(10) == 0 {
			a.Text = changed(g, a.Text)
		}
		check(atom.Cast(a, someKind(g)))
		check(atom.Arith(pick(g, operators()...), a, b))
		check(atom.Neg(a))
	}
	if found < 30000 {
		t.Error(found)
	}
}

// P8.9: what the comparisons of two values have to do with each other.
func TestOrder(t *testing.T) {
	g := rand.New(rand.NewPCG(25, 26))
	found := map[[3]bool]int{}
	for range 25000 {
		a, b := somePair(g)
		holds, back := map[string]bool{}, map[string]bool{}
		refused := 0
		for op := range comparisons() {
			var e, f api.Errno
			holds[op], e = atom.Compare(op, a, b)
			back[op], f = atom.Compare(op, b, a)
			if e != f || e != api.OK && (e != api.ErrType || holds[op] || back[op]) {
				t.Fatalf("%v %s %v: %t, %d, and %t, %d", a, op, b, holds[op], e, back[op], f)
			}
			if e != api.OK {
				refused++
			}
		}
		if refused > 0 {
			if refused != len(holds) {
				t.Fatalf("%v and %v: %d refusals", a, b, refused)
			}
			continue
		}
		one := [3]bool{holds["lt"], holds["eq"], holds["gt"]}
		found[one]++
		count := 0
		for _, is := range one {
			if is {
				count++
			}
		}
		none := a == v("double NaN") || b == v("double NaN")
		switch {
		case none && count != 0, !none && count != 1:
			t.Fatalf("%v and %v: %v", a, b, holds)
		case holds["ne"] == holds["eq"], holds["le"] != (holds["lt"] || holds["eq"]), holds["ge"] != (holds["gt"] || holds["eq"]):
			t.Fatalf("%v and %v: %v", a, b, holds)
		case holds["lt"] != back["gt"], holds["gt"] != back["lt"], holds["eq"] != back["eq"], holds["le"] != back["ge"]:
			t.Fatalf("%v and %v: %v, but %v", a, b, holds, back)
		}
	}
	if len(found) != 4 || found[[3]bool{}] < 20 {
		t.Error(found)
	}
}

// P8.10: Same is symmetric and transitive, and holds for a value and itself; values that are the same key are equal, unless they are NaN.
func TestKeys(t *testing.T) {
	g := rand.New(rand.NewPCG(27, 28))
	found, three := 0, 0
	for range 60000 {
		a := someAtom(g, someKind(g))
		b := related(g, a)
		c := related(g, b)
		if !atom.Same(a, a) {
			t.Fatalf("%v is not the same key as itself", a)
		}
		same := atom.Same(a, b)
		if atom.Same(b, a) != same {
			t.Fatalf("Same of %v and %v: %t, but not the other way round", a, b, same)
		}
		if !same {
			continue
		}
		found++
		if atom.Same(b, c) {
			three++
		}
		if atom.Same(b, c) != atom.Same(a, c) {
			t.Fatalf("%v is the same key as %v; %v is the same key as only one of them", a, b, c)
		}
		equal, e := atom.Compare("eq", a, b)
		if none := a == v("double NaN"); e != api.OK || equal == none {
			t.Fatalf("%v and %v are the same key, but eq is %t, %d", a, b, equal, e)
		}
	}
	if found < 10000 || three < 3000 {
		t.Error(found, three)
	}
}

// P8.10: all pairs of numbers of the tables, and what they are converted to.
func TestKeysOfNumbers(t *testing.T) {
	var l []api.Atom
	for _, a := range values() {
		if number(a.Kind) {
			l = append(l, a)
			for _, kind := range []int{api.AtomInteger, api.AtomDecimal, api.AtomDouble} {
				if b, e := definedCast(a, kind); e == api.OK {
					l = append(l, b)
				}
			}
		}
	}
	same := make([][]bool, len(l))
	for i, a := range l {
		for _, b := range l {
			same[i] = append(same[i], atom.Same(a, b))
			if want := definedSame(a, b); atom.Same(a, b) != want {
				t.Fatalf("Same of %v and %v: %t", a, b, !want)
			}
		}
	}
	for i := range l {
		for k := range l {
			if same[i][k] && !slices.Equal(same[i], same[k]) {
				t.Fatalf("%v and %v are the same key, but not of the same values", l[i], l[k])
			}
		}
	}
}

// P8.11: sums in both orders.
func TestSumsInBothOrders(t *testing.T) {
	g := rand.New(rand.NewPCG(29, 30))
	found := map[[2]int]int{}
	for range 60000 {
		a, b := somePair(g)
		sum, e := atom.Arith("+", a, b)
		if back, f := atom.Arith("+", b, a); sum != back || e != f {
			t.Fatalf("%v + %v: %v, %d, but in the other order %v, %d", a, b, sum, e, back, f)
		}
		if e == api.OK {
			found[[2]int{a.Kind, b.Kind}]++
		}
	}
	// 9 pairs of numbers, 2 of durations, and 3 of moments and seconds and 2 of moments and months, in both orders.
	if len(found) != 9+2+2*(3+2) {
		t.Error(found)
	}
}

// P8.11: the sum less the second value is the first one, with the kind of the sum.
func TestSumsAndDifferences(t *testing.T) {
	g := rand.New(rand.NewPCG(31, 32))
	found := map[[2]int]int{}
	for range 40000 {
		kinds := pick(g, [2]int{api.AtomInteger, api.AtomInteger}, [2]int{api.AtomInteger, api.AtomDecimal}, [2]int{api.AtomDecimal, api.AtomInteger}, [2]int{api.AtomDecimal, api.AtomDecimal}, [2]int{api.AtomMonths, api.AtomMonths}, [2]int{api.AtomSeconds, api.AtomSeconds})
		a, b := someAtom(g, kinds[0]), someAtom(g, kinds[1])
		sum, e := atom.Arith("+", a, b)
		if e != api.OK {
			continue
		}
		found[kinds]++
		if kind := max(a.Kind, b.Kind); sum.Kind != kind {
			t.Fatalf("%v + %v: %v", a, b, sum)
		}
		if back, e := atom.Arith("-", sum, b); back != (api.Atom{Kind: sum.Kind, Text: a.Text}) || e != api.OK {
			t.Fatalf("%v + %v: %v, but less %v: %v, %d", a, b, sum, b, back, e)
		}
	}
	for kinds, n := range found {
		if n < 4000 {
			t.Error(kinds, n)
		}
	}
	if len(found) != 6 {
		t.Error(found)
	}
}

// P1: every function terminates and does not panic, whatever its arguments are.
func TestAnyArguments(t *testing.T) {
	g := rand.New(rand.NewPCG(33, 34))
	some := func() api.Atom {
		a := someAtom(g, someKind(g))
		switch g.IntN(4) {
		case 0:
			a.Kind = pick(g, append(noKinds(), someKind(g), someKind(g), someKind(g))...)
		case 1:
			a.Text = changed(g, a.Text)
		}
		return a
	}
	for range 40000 {
		a, b := some(), some()
		op := pick(g, append(operators(), "eq", "ne", "lt", "le", "gt", "ge", "", "x", "\xff")...)
		kind := pick(g, append(noKinds(), someKind(g), someKind(g), someKind(g))...)
		valid, both := atom.Valid(a), atom.Valid(a) && atom.Valid(b)
		_, isOrder := comparisons()[op]
		isOperator := slices.Contains(operators(), op)
		for what, x := range map[string][2]bool{
			"Cast":    {errorOf(atom.Cast(a, kind)) == api.ErrArg, !valid || kind < 0 || kind > 10},
			"Compare": {errorOf(atom.Compare(op, a, b)) == api.ErrArg, !both || !isOrder},
			"Arith":   {errorOf(atom.Arith(op, a, b)) == api.ErrArg, !both || !isOperator},
			"Neg":     {errorOf(atom.Neg(a)) == api.ErrArg, !valid},
		} {
			if x[0] != x[1] {
				t.Fatalf("%s of %v, %v, %q, %d: ErrArg is %t", what, a, b, op, kind, x[0])
			}
		}
		if atom.Same(a, b) && !both {
			t.Fatalf("Same of %v and %v", a, b)
		}
	}
}

// errorOf returns the error of a call.
func errorOf[T any](_ T, e api.Errno) api.Errno { return e }
