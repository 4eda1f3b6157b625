package fmtnum_test

import (
	"math/big"
	"math/rand/v2"
	"regexp"
	"slices"
	"strings"
	"testing"

	"chisel/api"
	"chisel/chars"
	"chisel/fmtnum"
)

// The forms of canonical texts (but there is no -0), of rows of digits with a grouping sign in between, and of parts: a prefix, a row, a fraction and a suffix.
var (
	canonicalForm = regexp.MustCompile(`^-?(0|[1-9][0-9]{0,29})(\.[0-9]{0,19}[1-9])?$`)
	rowForm       = regexp.MustCompile(`^([#0]+(,[#0]+)*|[#0]+(\.[#0]+)*|[#0]+('[#0]+)*|[#0]+( [#0]+)*)$`)
	partForm      = regexp.MustCompile(`^([^#0,.;]*)([#0]+(?:,[#0]+)*|)((?:\.0*#*)?)([^#0,.;]*)$`)
)

// signsOf returns the digit signs of a row, without its grouping signs.
func signsOf(row string) string {
	return strings.Join(strings.FieldsFunc(row, func(r rune) bool { return r != '#' && r != '0' }), "")
}

// grouped returns digits that are grouped by a row, by the definition of the chapter.
func grouped(digits, row string) string {
	sign, before := "", 0
	var places []int // from the last one to the first one
	for i := len(row) - 1; i >= 0; i-- {
		if row[i] != '#' && row[i] != '0' {
			sign, before = row[i:i+1], len(signsOf(row[:i]))
			places = append(places, len(signsOf(row[i:])))
		}
	}
	isPlace := func(p int) bool { return slices.Contains(places, p) }
	for g := 1; g <= before+len(row) && len(places) > 0; g++ {
		regular := before <= g
		for i, p := range places {
			regular = regular && p == (i+1)*g
		}
		if regular {
			isPlace = func(p int) bool { return p%g == 0 }
		}
	}
	s := ""
	for p := len(digits); p > 0; p-- {
		if p < len(digits) && isPlace(p) {
			s += sign
		}
		s += digits[len(digits)-p : len(digits)-p+1]
	}
	return s
}

// filled returns digits with zeros in front, so that there are at least as many as there are 0 in a row.
func filled(digits, row string) string {
	for len(digits) < strings.Count(row, "0") {
		digits = "0" + digits
	}
	return digits
}

// definedDigits returns what an integer is written as by a picture of digits, by the definition.
func definedDigits(n, picture string) (string, api.Errno) {
	if n == "-0" || strings.Contains(n, ".") || !canonicalForm.MatchString(n) {
		return "", api.ErrArg
	}
	if strings.HasSuffix(picture, "1") {
		picture = picture[:len(picture)-1] + "0"
	}
	signs := signsOf(picture)
	if len(picture) > 100 || !rowForm.MatchString(picture) || strings.Contains(signs, "0#") || !strings.Contains(signs, "0") {
		return "", api.ErrForm
	}
	size, below := strings.CutPrefix(n, "-")
	s := grouped(filled(size, picture), picture)
	if below {
		s = "-" + s
	}
	return s, api.OK
}

// isPart reports whether a text is a part, and returns its prefix, row, fraction (with its point) and suffix.
func isPart(s string) (l []string, ok bool) {
	l = partForm.FindStringSubmatch(s)
	if l == nil {
		return nil, false
	}
	l = l[1:]
	switch {
	case strings.Contains(signsOf(l[1]), "0#"), strings.Count(l[0]+l[3], "%") > 1:
		return nil, false
	case l[2] == ".", len(l[2]) > 21, l[1] == "" && l[2] == "":
		return nil, false
	}
	return l, true
}

// tenTo returns 10^n.
func tenTo(n int) *big.Int {
	return new(big.Int).Exp(big.NewInt(10), big.NewInt(int64(n)), nil)
}

// rounded returns how many 10^-digits are in x, rounded "even".
func rounded(x *big.Rat, digits int) *big.Int {
	units := new(big.Rat).Mul(new(big.Rat).Abs(x), new(big.Rat).SetInt(tenTo(digits)))
	whole, rest := new(big.Int).QuoRem(units.Num(), units.Denom(), new(big.Int))
	if c := rest.Lsh(rest, 1).Cmp(units.Denom()); c > 0 || c == 0 && whole.Bit(0) == 1 {
		whole.Add(whole, big.NewInt(1))
	}
	if x.Sign() < 0 {
		whole.Neg(whole)
	}
	return whole
}

// writtenBy returns what a number is written as by a part, by the definition; below reports whether what it is rounded to is below 0.
func writtenBy(x *big.Rat, l []string) (s string, below bool, e api.Errno) {
	limit := new(big.Rat).SetInt(tenTo(30))
	if strings.Contains(l[0]+l[3], "%") {
		x = new(big.Rat).Mul(x, big.NewRat(100, 1))
		if new(big.Rat).Abs(x).Cmp(limit) >= 0 {
			return "", false, api.ErrPlus
		}
	}
	digits := max(len(l[2])-1, 0)
	units := rounded(x, digits)
	if new(big.Rat).SetFrac(new(big.Int).Abs(units), tenTo(digits)).Cmp(limit) >= 0 {
		return "", false, api.ErrPlus
	}
	all := strings.TrimPrefix(units.String(), "-")
	for len(all) <= digits {
		all = "0" + all
	}
	before, after := all[:len(all)-digits], all[len(all)-digits:]
	for strings.HasSuffix(after, "0") && len(after) > strings.Count(l[2], "0") {
		after = after[:len(after)-1]
	}
	if !strings.Contains(l[1], "0") && before == "0" {
		before = ""
	}
	number := grouped(filled(before, l[1]), l[1])
	if after != "" {
		number += "." + after
	}
	if number == "" {
		number = "0"
	}
	s = l[0] + number + l[3]
	if units.Sign() < 0 {
		return "-" + s, true, api.OK
	}
	return s, false, api.OK
}

// definedNumber returns what a number is written as by a picture of numbers, by the definition.
func definedNumber(n, picture string) (string, api.Errno) {
	if n == "-0" || !canonicalForm.MatchString(n) {
		return "", api.ErrArg
	}
	pieces := strings.Split(picture, ";")
	if len(picture) > 100 || !chars.IsText(picture) || len(pieces) > 2 {
		return "", api.ErrForm
	}
	var parts [][]string
	for _, piece := range pieces {
		l, ok := isPart(piece)
		if !ok {
			return "", api.ErrForm
		}
		parts = append(parts, l)
	}
	x, _ := new(big.Rat).SetString(n)
	s, below, e := writtenBy(x, parts[0])
	if e == api.OK && below && len(parts) == 2 {
		s, _, e = writtenBy(new(big.Rat).Neg(x), parts[1])
	}
	return s, e
}

// pick returns one of l.
func pick[T any](g *rand.Rand, l ...T) T { return l[g.IntN(len(l))] }

// someDigits returns n digits by chance, many of which are 0, 9 or 5.
func someDigits(g *rand.Rand, n int) string {
	s := ""
	for len(s) < n {
		run := 1 + g.IntN(12)
		s += pick(g, zeros(run), nines(run), "5", "4"+nines(run), string(rune('0'+g.IntN(10))), string(rune('0'+g.IntN(10))))
	}
	return s[:n]
}

// someInteger returns a canonical text of an integer by chance.
func someInteger(g *rand.Rand) string {
	s := strings.TrimLeft(someDigits(g, pick(g, 1, 1, 2, 3, 4, 6, 7, 9, 10, 18, 19, 20, 28, 29, 30, 1+g.IntN(30))), "0")
	if s == "" {
		return "0"
	}
	return pick(g, "", "", "-") + s
}

// someNumber returns a canonical text of a number by chance.
func someNumber(g *rand.Rand) string {
	whole := someInteger(g)
	fraction := strings.TrimRight(someDigits(g, pick(g, 0, 0, 1, 1, 2, 2, 3, 3, 4, 18, 19, 20, 1+g.IntN(20))), "0")
	switch {
	case fraction == "":
		return whole
	case whole == "0":
		whole = pick(g, "", "-") + "0"
	}
	return whole + "." + fraction
}

// someRow returns a row by chance, or nearly one, with a grouping sign.
func someRow(g *rand.Rand, sign string) string {
	if g.IntN(3) == 0 {
		return strings.Repeat("#", pick(g, 0, 0, 1, 2)) + strings.Repeat("0", pick(g, 0, 1, 1, 2, 5))
	}
	size, groups := 1+g.IntN(4), 1+g.IntN(4)
	n := size*groups + 1 + g.IntN(size+1)
	signs := strings.Repeat("#", g.IntN(n+1))
	signs += strings.Repeat("0", n-len(signs))
	s := ""
	for i, c := range signs {
		left := n - i
		if i > 0 && (left%size == 0 && g.IntN(12) > 0 || g.IntN(30) == 0) {
			s += sign
		}
		s += string(c)
	}
	return s
}

// somePart returns a part by chance, or nearly one.
func somePart(g *rand.Rand) string {
	s := pick(g, "", "", "", "(", "-", "%", "$ ", "1", "\u20ac") + someRow(g, ",")
	if g.IntN(3) > 0 {
		s += "." + strings.Repeat("0", pick(g, 0, 1, 1, 2, 3, 10, 18)) + strings.Repeat("#", pick(g, 0, 0, 1, 2, 2, 3))
	}
	return s + pick(g, "", "", "", ")", "%", " x", "5", "'", "\U0001f600")
}

// changed returns s, often with a few bytes put in, left out or replaced.
func changed(g *rand.Rand, s string) string {
	for range pick(g, 0, 0, 0, 0, 1, 1, 2) {
		i := g.IntN(len(s) + 1)
		s = s[:i] + pick(g, "", "#", "0", "1", "2", ",", ".", "'", " ", ";", "%", "-", "a", "w", "\xff", "\u00e9", "\x00", "\n", "\xef\xbf", strings.Repeat("#", 60), zeros(60), strings.Repeat("x", 60)) + s[min(i+g.IntN(2), len(s)):]
	}
	return s
}

// P9.1: pictures of digits by chance, against the definition.
func TestDigitsDefinition(t *testing.T) {
	g := rand.New(rand.NewPCG(1, 2))
	found := map[api.Errno]int{}
	groups := 0
	for range 100000 {
		n := pick(g, someInteger, someInteger, someInteger, someInteger, someNumber)(g)
		picture := someRow(g, pick(g, ",", ".", "'", " "))
		if strings.HasSuffix(picture, "0") && g.IntN(2) == 0 {
			picture = picture[:len(picture)-1] + "1"
		}
		picture = changed(g, picture)
		if strings.Trim(picture, "aw") == "" {
			continue
		}
		want, e := definedDigits(n, picture)
		found[e]++
		if strings.ContainsAny(want, ",.' ") {
			groups++
		}
		if got, f := fmtnum.Integer(n, picture); got != want || f != e {
			t.Fatalf("Integer of %s by %q: %q, %d, not %q, %d", n, picture, got, f, want, e)
		}
	}
	if found[api.OK] < 20000 || found[api.ErrForm] < 10000 || found[api.ErrArg] < 5000 || groups < 10000 {
		t.Error(found, groups)
	}
}

// P9.2: pictures of numbers by chance, against the definition.
func TestNumberDefinition(t *testing.T) {
	g := rand.New(rand.NewPCG(3, 4))
	found := map[api.Errno]int{}
	for range 200000 {
		n, picture := someNumber(g), somePart(g)
		if g.IntN(2) == 0 {
			picture += ";" + somePart(g)
		}
		n, picture = pick(g, n, n, n, n, changed(g, n)), changed(g, picture)
		want, e := definedNumber(n, picture)
		found[e]++
		if got, f := fmtnum.Number(n, picture); got != want || f != e {
			t.Fatalf("Number of %s by %q: %q, %d, not %q, %d", n, picture, got, f, want, e)
		}
	}
	if found[api.OK] < 50000 || found[api.ErrForm] < 30000 || found[api.ErrArg] < 5000 || found[api.ErrPlus] < 2000 {
		t.Error(found)
	}
}

// P9.1 and P9.2: all short strings of the characters that matter, against the definitions.
func TestShortPictures(t *testing.T) {
	integers, numbers := 0, 0
	var all func(s, letters string, left int, check func(s string))
	all = func(s, letters string, left int, check func(s string)) {
		check(s)
		for _, c := range letters {
			if left > 0 {
				all(s+string(c), letters, left-1, check)
			}
		}
	}
	all("", "#01,.' ", 5, func(s string) {
		for _, n := range []string{"0", "-12345"} {
			want, e := definedDigits(n, s)
			if got, f := fmtnum.Integer(n, s); got != want || f != e {
				t.Fatalf("Integer of %s by %q: %q, %d, not %q, %d", n, s, got, f, want, e)
			}
			if e == api.OK {
				integers++
			}
		}
	})
	all("", "#0,.;%(", 5, func(s string) {
		for _, n := range []string{"0.005", "-1234.5"} {
			want, e := definedNumber(n, s)
			if got, f := fmtnum.Number(n, s); got != want || f != e {
				t.Fatalf("Number of %s by %q: %q, %d, not %q, %d", n, s, got, f, want, e)
			}
			if e == api.OK {
				numbers++
			}
		}
	})
	if integers < 100 || numbers < 1000 {
		t.Error(integers, numbers)
	}
}

// P9.1: all Roman numbers, digit by digit.
func TestRomanDefinition(t *testing.T) {
	places := []string{"ivx", "xlc", "cdm", "m"}
	for n := 1; n <= 3999; n++ {
		text := big.NewInt(int64(n)).String()
		want := ""
		for i, digit := range text {
			signs := places[len(text)-1-i]
			for _, k := range []string{"", "0", "00", "000", "01", "1", "10", "100", "1000", "02"}[digit-'0'] {
				want += signs[k-'0' : k-'0'+1]
			}
		}
		check(t, fmtnum.Integer, []row{{text, "i", want}, {text, "I", strings.ToUpper(want)}})
	}
}
