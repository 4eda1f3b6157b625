package dur_test

import (
	"math/big"
	"math/rand/v2"
	"strconv"
	"strings"
	"testing"

	"chisel/api"
	"chisel/dur"
	"chisel/num"
)

// value returns what a function returns that has no error here.
func value[T any](t *testing.T) func(x T, e api.Errno) T {
	return func(x T, e api.Errno) T {
		t.Helper()
		if e != api.OK {
			t.Fatal("error", e)
		}
		return x
	}
}

// someCount returns a number of months by chance.
func someCount(g *rand.Rand) int {
	return pick(g, 1, -1) * int(g.Int64N(pick[int64](g, 2, 30, 1000, 1e6, 1e10)))
}

// P6.5: there and back.
func TestThereAndBack(t *testing.T) {
	g := rand.New(rand.NewPCG(9, 10))
	for range 40000 {
		n := someCount(g)
		s := value[string](t)(dur.TextMonths(n))
		if got, e := dur.ParseMonths(s); got != n || e != api.OK || len(s) >= 200 || !monthsForm.MatchString(s) {
			t.Fatalf("TextMonths of %d: %q, for which ParseMonths returns %d, %d", n, s, got, e)
		}
		x := someNumber(g)
		s = value[string](t)(dur.TextSeconds(x))
		if got, e := dur.ParseSeconds(s); got != x || e != api.OK || len(s) >= 200 || !secondsForm.MatchString(s) {
			t.Fatalf("TextSeconds of %s: %q, for which ParseSeconds returns %q, %d", x, s, got, e)
		}
	}
}

// monthsForms returns forms that stand for a number of months that is not below 0.
func monthsForms(g *rand.Rand, n int) []string {
	years := g.IntN(n/12 + 1)
	zero := zeros(g.IntN(5))
	l := []string{
		"P" + zero + strconv.Itoa(n) + "M",
		"P0Y" + strconv.Itoa(n) + "M",
		"P" + strconv.Itoa(years) + "Y" + zero + strconv.Itoa(n-12*years) + "M",
	}
	if n%12 == 0 {
		l = append(l, "P"+zero+strconv.Itoa(n/12)+"Y")
	}
	return l
}

// checkOneText checks that two forms stand for the same number if and only if their canonical texts are equal, for each pair of forms, and returns how many pairs have equal ones.
func checkOneText(t *testing.T, as, bs []string, stands func(s string) (*big.Rat, bool), text func(s string) string) (equal int) {
	t.Helper()
	for _, a := range as {
		for _, b := range bs {
			x, _ := stands(a)
			y, _ := stands(b)
			s, u := text(a), text(b)
			if (s == u) != (x.Cmp(y) == 0) {
				t.Fatalf("%s is %s, and %s is %s", a, s, b, u)
			}
			if s == u {
				equal++
			}
		}
	}
	return equal
}

// P6.6: one text for all forms that stand for the same number of months, and others for others.
func TestOneTextOfMonths(t *testing.T) {
	g := rand.New(rand.NewPCG(11, 12))
	equal := 0
	for range 10000 {
		n := max(someCount(g), 0)
		m := max(n+pick(g, 0, 0, 1, -1, 12), 0)
		if m > 9_999_999_999 {
			continue
		}
		equal += checkOneText(t, monthsForms(g, n), monthsForms(g, m), standsForMonths, func(s string) string {
			return value[string](t)(dur.TextMonths(value[int](t)(dur.ParseMonths(s))))
		})
	}
	if equal < 10000 {
		t.Error("equal:", equal)
	}
}

// secondsForms returns forms that stand for a number of seconds that is not below 0.
func secondsForms(g *rand.Rand, x string) []string {
	whole, fraction, point := strings.Cut(x, ".")
	n, _ := new(big.Int).SetString(whole, 10)
	end := "S"
	if point {
		end = "." + fraction + pick(g, "", "0", "000") + "S"
	}
	zero := zeros(g.IntN(5))
	minutes, rest := new(big.Int).DivMod(n, big.NewInt(60), new(big.Int))
	minutes.Sub(minutes, big.NewInt(int64(g.IntN(2))))
	if minutes.Sign() < 0 {
		return []string{"PT" + zero + n.String() + end, "P0DT" + n.String() + end}
	}
	rest.Sub(n, new(big.Int).Mul(minutes, big.NewInt(60)))
	hours, left := new(big.Int).DivMod(minutes, big.NewInt(60), new(big.Int))
	days, clock := new(big.Int).DivMod(hours, big.NewInt(24), new(big.Int))
	return []string{
		"PT" + zero + n.String() + end,
		"PT" + zero + minutes.String() + "M" + rest.String() + end,
		"PT" + hours.String() + "H" + left.String() + "M" + zero + rest.String() + end,
		"P" + zero + days.String() + "DT" + clock.String() + "H" + left.String() + "M" + rest.String() + end,
	}
}

// P6.6: one text for all forms that stand for the same number of seconds, and others for others.
func TestOneTextOfSeconds(t *testing.T) {
	g := rand.New(rand.NewPCG(13, 14))
	equal := 0
	for range 5000 {
		a := strings.TrimPrefix(someNumber(g), "-")
		b, e := num.Add(a, pick(g, "0", "0", "1", "60", least, "0.5"))
		if e != api.OK {
			continue
		}
		equal += checkOneText(t, secondsForms(g, a), secondsForms(g, b), standsForSeconds, func(s string) string {
			return value[string](t)(dur.TextSeconds(value[string](t)(dur.ParseSeconds(s))))
		})
	}
	if equal < 10000 {
		t.Error("equal:", equal)
	}
}

// P6.7: signs.
func TestSigns(t *testing.T) {
	g := rand.New(rand.NewPCG(15, 16))
	months, seconds := 0, 0
	for range 40000 {
		s := strings.TrimPrefix(changed(g, someMonths(g)), "-")
		n, e := dur.ParseMonths(s)
		m, f := dur.ParseMonths("-" + s)
		if len(s) < 200 && !strings.HasPrefix(s, "-") && (m != -n || e != f) {
			t.Fatalf("ParseMonths of %s: %d, %d; of the opposite %d, %d", s, n, e, m, f)
		}
		if n != 0 {
			months++
		}
		s = strings.TrimPrefix(changed(g, someSeconds(g)), "-")
		x, e := dur.ParseSeconds(s)
		y, f := dur.ParseSeconds("-" + s)
		want := ""
		if e == api.OK {
			want = value[string](t)(num.Neg(x))
		}
		if len(s) < 200 && !strings.HasPrefix(s, "-") && (y != want || e != f) {
			t.Fatalf("ParseSeconds of %s: %q, %d; of the opposite %q, %d", s, x, e, y, f)
		}
		if want != "" && want != "0" {
			seconds++
		}
	}
	if months < 2000 || seconds < 2000 {
		t.Error(months, seconds)
	}
}

// P6.8: the parts add up, and a greater one stands for as much as so many smaller ones.
func TestParts(t *testing.T) {
	g := rand.New(rand.NewPCG(17, 18))
	for range 20000 {
		years, months := g.IntN(1000000), g.IntN(1000000)
		y, m := strconv.Itoa(years)+"Y", strconv.Itoa(months)+"M"
		whole := value[int](t)(dur.ParseMonths("P" + y + m))
		if sum := value[int](t)(dur.ParseMonths("P"+y)) + value[int](t)(dur.ParseMonths("P"+m)); sum != whole {
			t.Fatalf("P%s and P%s: %d, not %d", y, m, sum, whole)
		}
		if n := value[int](t)(dur.ParseMonths("P" + strconv.Itoa(12*years) + "M")); n != value[int](t)(dur.ParseMonths("P"+y)) {
			t.Fatalf("P%s: not %d", y, n)
		}
		sum, form := "0", "P"
		for _, x := range []struct {
			mark, letter string
			seconds      int
		}{{"", "D", 86400}, {"T", "H", 3600}, {"T", "M", 60}, {"T", "S", 1}} {
			n := g.IntN(1000000)
			part := strconv.Itoa(n) + x.letter
			alone := value[string](t)(dur.ParseSeconds("P" + x.mark + part))
			if same := value[string](t)(dur.ParseSeconds("PT" + strconv.Itoa(n*x.seconds) + "S")); same != alone {
				t.Fatalf("P%s%s: %s, not %s", x.mark, part, alone, same)
			}
			sum = value[string](t)(num.Add(sum, alone))
			if !strings.Contains(form, "T") {
				form += x.mark
			}
			form += part
			if got := value[string](t)(dur.ParseSeconds(form)); got != sum {
				t.Fatalf("%s: %s, not %s", form, got, sum)
			}
		}
	}
	for _, x := range [][2]string{{"P1DT1H", "PT25H"}, {"P1D", "PT24H"}, {"PT1H", "PT60M"}, {"PT1M", "PT60S"}, {"PT1M1.5S", "PT61.5S"}, {"P1DT0.5S", "PT86400.5S"}} {
		if a, b := value[string](t)(dur.ParseSeconds(x[0])), value[string](t)(dur.ParseSeconds(x[1])); a != b {
			t.Errorf("%s: %s; %s: %s", x[0], a, x[1], b)
		}
	}
}
