package time_test

import (
	"cmp"
	"math/rand/v2"
	"slices"
	"testing"

	"chisel/api"
	"chisel/num"
	"chisel/time"
)

// value returns what a function returns that has no error here.
func value[T any](t *testing.T) func(x T, e api.Errno) T {
	return func(x T, e api.Errno) T {
		t.Helper()
		if e != api.OK {
			t.Fatal("error", e)
		}
		return x
	}
}

// only returns m with what a kind does not have replaced.
func only(kind int, m time.Moment) time.Moment {
	switch kind {
	case date:
		m.Hour, m.Minute, m.Second = 0, 0, "0"
	case clock:
		m.Year, m.Month, m.Day = 1972, 12, 31
	}
	return m
}

// P7.8: the canonical text of a moment is read as this moment, or as what the kind has of it.
func TestRoundTrip(t *testing.T) {
	g := rand.New(rand.NewPCG(11, 12))
	for range 50000 {
		m := someMoment(g)
		for _, kind := range kinds() {
			s := value[string](t)(time.Text(kind, m))
			if got, e := time.Parse(kind, s); got != only(kind, m) || e != api.OK || !forms[kind].MatchString(s) {
				t.Fatalf("Text of %d %v: %s, for which Parse returns %v, %d", kind, m, s, got, e)
			}
		}
	}
}

// P7.8: what Parse returns has a canonical text that is read as the same moment.
func TestRoundTripOfTexts(t *testing.T) {
	g := rand.New(rand.NewPCG(13, 14))
	found, changed := 0, 0
	for range 100000 {
		kind := pick(g, kinds()...)
		s := someText(g, kind)
		m, e := time.Parse(kind, s)
		if e != api.OK {
			continue
		}
		found++
		again := value[string](t)(time.Text(kind, m))
		if again != s {
			changed++
		}
		if got, e := time.Parse(kind, again); got != m || e != api.OK {
			t.Fatalf("Parse of %d %s: %v; of its text %s: %v, %d", kind, s, m, again, got, e)
		}
		if last := value[string](t)(time.Text(kind, m)); last != again {
			t.Fatalf("Text of %d %v: %s, then %s", kind, m, again, last)
		}
	}
	if found < 30000 || changed < 5000 {
		t.Error(found, changed)
	}
}

// compare compares the local times of two moments, part by part.
func compare(t *testing.T, m, n time.Moment) int {
	if c := slices.Compare([]int{m.Year, m.Month, m.Day, m.Hour, m.Minute}, []int{n.Year, n.Month, n.Day, n.Hour, n.Minute}); c != 0 {
		return c
	}
	return value[int](t)(num.Cmp(m.Second, n.Second))
}

// P7.9: the later one has the greater seconds.
func TestOrder(t *testing.T) {
	g := rand.New(rand.NewPCG(15, 16))
	found := map[int]int{}
	for range 100000 {
		m, n := someMoment(g), someMoment(g)
		n.Zone, n.Has = m.Zone, m.Has
		// Often, they are equal up to one of their parts.
		for i, part := range []func(){func() { n.Year = m.Year }, func() { n.Month = m.Month }, func() { n.Day = m.Day }, func() { n.Hour = m.Hour }, func() { n.Minute = m.Minute }, func() { n.Second = m.Second }} {
			if i >= g.IntN(10) {
				break
			}
			part()
		}
		n.Day = min(n.Day, lastDay(n.Year, n.Month))
		want := compare(t, m, n)
		found[want]++
		if got := value[int](t)(num.Cmp(value[string](t)(time.Seconds(m)), value[string](t)(time.Seconds(n)))); got != want {
			t.Fatalf("Seconds of %v and %v: %d, not %d", m, n, got, want)
		}
	}
	if found[0] < 200 || found[-1] < 40000 || found[1] < 40000 {
		t.Error(found)
	}
}

// P7.9: AddSeconds adds up seconds, and keeps the zone.
func TestSums(t *testing.T) {
	g := rand.New(rand.NewPCG(17, 18))
	found := 0
	for range 50000 {
		m, n := someMoment(g), someNumber(g)
		later, e := time.AddSeconds(m, n)
		if e != api.OK {
			continue
		}
		found++
		n = value[string](t)(num.Round(value[string](t)(num.Parse(n)), 6, "even"))
		sum := value[string](t)(num.Add(value[string](t)(time.Seconds(m)), n))
		if got := value[string](t)(time.Seconds(later)); got != sum || later.Zone != m.Zone || later.Has != m.Has {
			t.Fatalf("AddSeconds of %v and %s: %v, whose seconds are %s, not %s", m, n, later, got, sum)
		}
		if back := value[time.Moment](t)(time.AddSeconds(later, value[string](t)(num.Neg(n)))); back != m {
			t.Fatalf("AddSeconds of %v and the opposite of %s: %v, not %v", later, n, back, m)
		}
	}
	if found < 20000 {
		t.Error(found)
	}
}

// P7.6: another zone has the same seconds, and leads back.
func TestZones(t *testing.T) {
	g := rand.New(rand.NewPCG(19, 20))
	found := 0
	for range 50000 {
		m := someMoment(g)
		other, e := time.Adjust(m, g.IntN(1681)-840, true)
		if e != api.OK || !m.Has {
			continue
		}
		found++
		if a, b := value[string](t)(time.Seconds(m)), value[string](t)(time.Seconds(other)); a != b {
			t.Fatalf("Adjust of %v: %v, whose seconds are %s, not %s", m, other, b, a)
		}
		if back := value[time.Moment](t)(time.Adjust(other, m.Zone, true)); back != m {
			t.Fatalf("Adjust of %v: %v, and back %v", m, other, back)
		}
	}
	if found < 20000 {
		t.Error(found)
	}
}

// P7.10: 12 months later is the same day of the next year, but for February 29.
func TestYears(t *testing.T) {
	g := rand.New(rand.NewPCG(21, 22))
	leap := 0
	for range 50000 {
		m := someMoment(g)
		if g.IntN(10) == 0 {
			m.Year, m.Month, m.Day = 4*g.IntN(2499)+4, 2, 29
			if lastDay(m.Year, 2) == 28 {
				m.Day = 28
			}
		}
		if m.Year == 9999 {
			continue
		}
		want := m
		want.Year++
		if m.Month == 2 && m.Day == 29 {
			want.Day = 28
			leap++
		}
		if got, e := time.AddMonths(m, 12); got != want || e != api.OK {
			t.Fatalf("AddMonths of %v and 12: %v, %d", m, got, e)
		}
	}
	if leap < 1000 {
		t.Error("leap:", leap)
	}
}

// P7.10: months later, and as many earlier.
func TestMonthsThereAndBack(t *testing.T) {
	g := rand.New(rand.NewPCG(23, 24))
	found := 0
	for range 50000 {
		m := someMoment(g)
		m.Day = min(m.Day, 28)
		n := pick(g, 1, -1) * g.IntN(pick(g, 13, 1000, 120000))
		other, e := time.AddMonths(m, n)
		if e != api.OK {
			continue
		}
		found++
		if back, e := time.AddMonths(other, -n); back != m || e != api.OK {
			t.Fatalf("AddMonths of %v and %d: %v, and back %v, %d", m, n, other, back, e)
		}
	}
	if found < 20000 {
		t.Error(found)
	}
}

// P7.11: a day later is the next weekday, on all days around the ends of months and on others by chance; 400 years later, the same weekday.
func TestWeekdays(t *testing.T) {
	g := rand.New(rand.NewPCG(25, 26))
	later := 0
	for range 50000 {
		m := someMoment(g)
		today := time.Weekday(m)
		if today < 1 || today > 7 {
			t.Fatalf("Weekday of %v: %d", m, today)
		}
		if next, e := time.AddSeconds(m, "86400"); e == api.OK {
			if got := time.Weekday(next); got != today%7+1 {
				t.Fatalf("Weekday of %v: %d; of %v: %d", m, today, next, got)
			}
		}
		m.Year += 400
		if m.Year > 9999 {
			continue
		}
		later++
		if got := time.Weekday(m); got != today {
			t.Fatalf("Weekday of %v: %d, and not %d as 400 years before", m, got, today)
		}
	}
	if later < 20000 {
		t.Error(later)
	}
}

// P7.11: all days of 401 years, one after the other.
func TestDays(t *testing.T) {
	m, weekday, days := on(1800, 1, 1), time.Weekday(on(1800, 1, 1)), 0
	for m.Year < 2201 {
		next := value[time.Moment](t)(time.AddSeconds(m, "86400"))
		weekday = weekday%7 + 1
		follows := cmp.Or(cmp.Compare(next.Year, m.Year), cmp.Compare(next.Month, m.Month), cmp.Compare(next.Day, m.Day)) > 0
		if !follows || time.Weekday(next) != weekday || next != on(next.Year, next.Month, next.Day) || next.Day != m.Day+1 && (next.Day != 1 || m.Day != lastDay(m.Year, m.Month)) {
			t.Fatalf("a day after %v: %v, %d", m, next, time.Weekday(next))
		}
		m = next
		days++
	}
	if days != 146097+365 || m != on(2201, 1, 1) {
		t.Error(days, m)
	}
}
