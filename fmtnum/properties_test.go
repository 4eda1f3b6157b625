package fmtnum_test

import (
	"math/big"
	"math/rand/v2"
	"regexp"
	"strconv"
	"strings"
	"testing"

	"chisel/api"
	"chisel/fmtnum"
	"chisel/num"
)

// value returns what a function returns that has no error here.
func value(t *testing.T) func(s string, e api.Errno) string {
	return func(s string, e api.Errno) string {
		t.Helper()
		if e != api.OK {
			t.Fatal("error", e)
		}
		return s
	}
}

// P9.3: what a picture of digits writes is the canonical text, but for its grouping signs and the zeros in front.
func TestDigitsAreThere(t *testing.T) {
	g := rand.New(rand.NewPCG(5, 6))
	written := 0
	for range 40000 {
		n, sign := someInteger(g), pick(g, ",", ".", "'", " ")
		s, e := fmtnum.Integer(n, someRow(g, sign))
		if e != api.OK {
			continue
		}
		written++
		size, below := strings.CutPrefix(s, "-")
		size = strings.TrimLeft(strings.ReplaceAll(size, sign, ""), "0")
		if size == "" {
			size = "0"
		}
		if below {
			size = "-" + size
		}
		if size != n {
			t.Fatalf("%s is written as %q", n, s)
		}
	}
	if written < 10000 {
		t.Error("written:", written)
	}
}

// P9.3: a fraction of 20 digit signs keeps every number.
func TestNumberKept(t *testing.T) {
	g := rand.New(rand.NewPCG(7, 8))
	picture := "0." + strings.Repeat("#", 20)
	for range 40000 {
		n := someNumber(g)
		check(t, fmtnum.Number, []row{{n, picture, n}})
	}
	for _, n := range []string{"0", least, "-" + least, greatest, "-" + greatest, "0.1", "-10"} {
		check(t, fmtnum.Number, []row{{n, picture, n}})
	}
}

// P9.4: groups of three.
func TestGroupsOfThree(t *testing.T) {
	g := rand.New(rand.NewPCG(9, 10))
	form := regexp.MustCompile(`^-?[0-9]{1,3}(,[0-9]{3})*$`)
	for range 20000 {
		n := someInteger(g)
		for _, f := range []func(n, picture string) (string, api.Errno){fmtnum.Integer, fmtnum.Number} {
			s := value(t)(f(n, "#,##0"))
			if !form.MatchString(s) || strings.ReplaceAll(s, ",", "") != n {
				t.Fatalf("%s is written as %q", n, s)
			}
		}
	}
}

// next returns the word of letters that follows a word.
func next(word string) string {
	rest := strings.TrimRight(word, "z")
	if rest == "" {
		return strings.Repeat("a", len(word)+1)
	}
	last := len(rest) - 1
	return rest[:last] + string(rest[last]+1) + strings.Repeat("a", len(word)-len(rest))
}

// P9.5: the words of letters in their order, from 1 on and after numbers by chance.
func TestLettersInOrder(t *testing.T) {
	word := ""
	for n := 1; n <= 30000; n++ {
		word = next(word)
		check(t, fmtnum.Integer, []row{{strconv.Itoa(n), "a", word}, {strconv.Itoa(n), "A", strings.ToUpper(word)}})
	}
	g := rand.New(rand.NewPCG(11, 12))
	for range 20000 {
		n := strings.TrimPrefix(someInteger(g), "-")
		more, e := num.Add(n, "1")
		if e != api.OK || n == "0" || !num.IsInt(more) {
			continue
		}
		s := value(t)(fmtnum.Integer(n, "a"))
		check(t, fmtnum.Integer, []row{{more, "a", next(s)}})
		// The word is the number with 26 digits from a (1) to z (26).
		sum := new(big.Int)
		for _, c := range s {
			sum.Add(sum.Mul(sum, big.NewInt(26)), big.NewInt(int64(c-'a'+1)))
		}
		if sum.String() != n || strings.Trim(s, "abcdefghijklmnopqrstuvwxyz") != "" {
			t.Fatalf("%s is written as %q", n, s)
		}
	}
}

// P9.1 and P9.6: the words of all integers below 10,000, and of others by chance, are put together from those below 1000.
func TestWordsDefinition(t *testing.T) {
	small := strings.Fields("zero one two three four five six seven eight nine ten eleven twelve thirteen fourteen fifteen sixteen seventeen eighteen nineteen")
	tens := strings.Fields("twenty thirty forty fifty sixty seventy eighty ninety")
	below := append([]string{}, small...)
	for _, ten := range tens {
		below = append(below, ten)
		for _, one := range small[1:10] {
			below = append(below, ten+"-"+one)
		}
	}
	for _, hundreds := range small[1:10] {
		below = append(below, hundreds+" hundred")
		for _, rest := range below[1:100] {
			below = append(below, hundreds+" hundred "+rest)
		}
	}
	if len(below) != 1000 {
		t.Fatal(len(below))
	}
	test := func(n int) {
		t.Helper()
		want := below[n%1000]
		if n >= 1000 {
			want = below[n/1000] + " thousand " + want
			want = strings.TrimSuffix(want, " zero")
		}
		text := strconv.Itoa(n)
		check(t, fmtnum.Integer, []row{{text, "w", want}, {text, "W", strings.ToUpper(want)}})
		if n > 0 {
			check(t, fmtnum.Integer, []row{{"-" + text, "w", "minus " + want}})
		}
	}
	for n := range 10000 {
		test(n)
	}
	g := rand.New(rand.NewPCG(13, 14))
	for range 20000 {
		test(g.IntN(1000000))
		test(1000 * g.IntN(1000))
	}
}

// P9.6: what W and Ww write, and where their capital letters are.
func TestWordsInCapitals(t *testing.T) {
	g := rand.New(rand.NewPCG(15, 16))
	word := regexp.MustCompile(`^[A-Z][a-z]+(-[a-z]+)?$`)
	for range 20000 {
		n := strconv.Itoa(g.IntN(1999999) - 999999)
		s := value(t)(fmtnum.Integer(n, "w"))
		all, first := value(t)(fmtnum.Integer(n, "W")), value(t)(fmtnum.Integer(n, "Ww"))
		if s != strings.ToLower(s) || strings.ToLower(all) != s || all != strings.ToUpper(all) || strings.ToLower(first) != s {
			t.Fatalf("%s: %q, %q, %q", n, s, all, first)
		}
		for _, w := range strings.Split(first, " ") {
			if !word.MatchString(w) {
				t.Fatalf("%s: %q", n, first)
			}
		}
	}
}

// P9.7: signs, for pictures with one part and without a minus sign of their own.
func TestSigns(t *testing.T) {
	g := rand.New(rand.NewPCG(17, 18))
	zero, above := 0, 0
	for range 60000 {
		n, picture := someNumber(g), somePart(g)
		if g.IntN(2) == 0 {
			n = "0." + zeros(g.IntN(6)) + strings.TrimRight(someDigits(g, 3), "0") + "1"
		}
		s, e := fmtnum.Number(n, picture)
		if e != api.OK || strings.Contains(s, "-") {
			continue
		}
		want := s
		if isRoundedToZero(n, picture) {
			zero++
		} else {
			want = "-" + s
			above++
		}
		check(t, fmtnum.Number, []row{{value(t)(num.Neg(n)), picture, want}})
	}
	if zero < 2000 || above < 10000 {
		t.Error(zero, above)
	}
}

// isRoundedToZero reports whether a number is 0 when it is multiplied and rounded as a part says.
func isRoundedToZero(n, picture string) bool {
	l, _ := isPart(picture)
	x, _ := new(big.Rat).SetString(n)
	if strings.Contains(picture, "%") {
		x.Mul(x, big.NewRat(100, 1))
	}
	return rounded(x, max(len(l[2])-1, 0)).Sign() == 0
}
