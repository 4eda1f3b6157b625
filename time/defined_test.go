package time_test

import (
	"math/big"
	"math/rand/v2"
	"regexp"
	"strconv"
	"strings"
	"testing"
	calendar "time"

	"chisel/api"
	"chisel/num"
	"chisel/time"
)

// The forms, with a group for each part.
var forms = map[int]*regexp.Regexp{
	date:   regexp.MustCompile(`\A` + dateForm + zoneForm + `\z`),
	clock:  regexp.MustCompile(`\A` + clockForm + zoneForm + `\z`),
	moment: regexp.MustCompile(`\A` + dateForm + `T` + clockForm + zoneForm + `\z`),
}

const (
	dateForm  = `([0-9]{4})-([0-9]{2})-([0-9]{2})`
	clockForm = `([0-9]{2}):([0-9]{2}):([0-9]{2}(?:\.[0-9]{1,6})?)`
	zoneForm  = `(Z|[+-][0-9]{2}:[0-9]{2})?`
)

// written returns the parts of a text of a kind, with those that the kind does not have; ok is false if it does not have the form.
func written(kind int, s string) (parts [6]string, zone string, ok bool) {
	found := forms[kind].FindStringSubmatch(s)
	if found == nil {
		return parts, "", false
	}
	parts = [6]string{"1972", "12", "31", "00", "00", "00"}
	switch kind {
	case date:
		copy(parts[:3], found[1:4])
	case clock:
		copy(parts[3:], found[1:4])
	case moment:
		copy(parts[:], found[1:7])
	}
	return parts, found[len(found)-1], true
}

// whole returns the number with these digits.
func whole(s string) int {
	n, err := strconv.Atoi(s)
	if err != nil {
		panic(err)
	}
	return n
}

// rat returns the number of a decimal text.
func rat(s string) *big.Rat {
	x, ok := new(big.Rat).SetString(s)
	if !ok {
		panic(s)
	}
	return x
}

// canonical returns the canonical text of a number with at most 6 digits after the point.
func canonical(x *big.Rat) string {
	return strings.TrimSuffix(strings.TrimRight(x.FloatString(6), "0"), ".")
}

// lastDay returns the last day of a month, by the calendar of Go's library.
func lastDay(year, month int) int {
	return calendar.Date(year, calendar.Month(month+1), 0, 0, 0, 0, 0, calendar.UTC).Day()
}

// zoneMinutes returns the minutes of a zone as it is written; ok is false if it is out of range.
func zoneMinutes(s string) (n int, ok bool) {
	if s == "" || s == "Z" {
		return 0, true
	}
	hours, minutes := whole(s[1:3]), whole(s[4:])
	n = 60*hours + minutes
	ok = hours <= 14 && minutes <= 59 && n <= 840
	if s[0] == '-' {
		n = -n
	}
	return n, ok
}

// definedParse returns what Parse returns by its definition.
func definedParse(kind int, s string) (time.Moment, api.Errno) {
	parts, zone, ok := written(kind, s)
	if !ok {
		return time.Moment{}, api.ErrForm
	}
	var n [5]int
	for i := range n {
		n[i] = whole(parts[i])
	}
	second := rat(parts[5])
	end := n[3] == 24 && n[4] == 0 && second.Sign() == 0
	minutes, ok := zoneMinutes(zone)
	switch {
	case !ok, n[0] == 0, n[1] == 0, n[1] > 12, n[2] == 0, n[2] > lastDay(n[0], n[1]), n[3] > 23 && !end, n[4] > 59, second.Cmp(rat("60")) >= 0:
		return time.Moment{}, api.ErrRange
	}
	day := calendar.Date(n[0], calendar.Month(n[1]), n[2], 0, 0, 0, 0, calendar.UTC)
	if end && kind == moment {
		day = day.AddDate(0, 0, 1)
	}
	if day.Year() > 9999 {
		return time.Moment{}, api.ErrRange
	}
	return time.Moment{Year: day.Year(), Month: int(day.Month()), Day: day.Day(), Hour: n[3] % 24, Minute: n[4], Second: canonical(second), Zone: minutes, Has: zone != ""}, api.OK
}

// pick returns one of l.
func pick[T any](g *rand.Rand, l ...T) T { return l[g.IntN(len(l))] }

// digits returns n with at least so many digits.
func digits(n, width int) string {
	s := strconv.Itoa(n)
	return strings.Repeat("0", max(width-len(s), 0)) + s
}

// someYear returns a year by chance.
func someYear(g *rand.Rand) int {
	return pick(g, 1, 2, 4, 99, 100, 400, 1582, 1600, 1899, 1900, 1969, 1970, 1972, 2000, 2023, 2024, 2100, 9998, 9999, 1+g.IntN(9999), 1+g.IntN(9999), 1+g.IntN(9999), 1950+g.IntN(150))
}

// someSecond returns the canonical text of a second by chance.
func someSecond(g *rand.Rand) string {
	n := pick(g, 0, 0, 59, 30, 9, 10, g.IntN(60)) * 1000000
	n += pick(g, 0, 0, 0, 1, 999999, 500000, 250000, 10, g.IntN(1000000))
	return canonical(big.NewRat(int64(n), 1000000))
}

// someMoment returns a moment by chance.
func someMoment(g *rand.Rand) time.Moment {
	m := time.Moment{Year: someYear(g), Month: pick(g, 1, 2, 2, 3, 12, 1+g.IntN(12)), Hour: pick(g, 0, 23, g.IntN(24)), Minute: pick(g, 0, 59, g.IntN(60)), Second: someSecond(g)}
	last := lastDay(m.Year, m.Month)
	m.Day = pick(g, 1, last, 1+g.IntN(last), 1+g.IntN(last))
	if g.IntN(3) > 0 {
		m.Zone, m.Has = pick(g, 0, 840, -840, 839, -60, 330, g.IntN(1681)-840, g.IntN(1681)-840), true
	}
	return m
}

// definedText returns the canonical text of a moment, by its definition.
func definedText(kind int, m time.Moment) string {
	day := digits(m.Year, 4) + "-" + digits(m.Month, 2) + "-" + digits(m.Day, 2)
	hour := digits(m.Hour, 2) + ":" + digits(m.Minute, 2) + ":"
	whole, fraction, point := strings.Cut(m.Second, ".")
	hour += strings.Repeat("0", 2-len(whole)) + whole
	if point {
		hour += "." + fraction
	}
	size := max(m.Zone, -m.Zone)
	zone := digits(size/60, 2) + ":" + digits(size%60, 2)
	switch {
	case !m.Has:
		zone = ""
	case m.Zone == 0:
		zone = "Z"
	case m.Zone < 0:
		zone = "-" + zone
	default:
		zone = "+" + zone
	}
	return map[int]string{date: day, clock: hour, moment: day + "T" + hour}[kind] + zone
}

// somePart returns a part of a text by chance, which is often out of range.
func somePart(g *rand.Rand, most int) string {
	return digits(pick(g, 0, 1, most, most+1, 99, g.IntN(most+1), g.IntN(most+1), g.IntN(most+1), g.IntN(most+1), g.IntN(most+1), g.IntN(most+1)), 2)
}

// someText returns a text by chance that has the form of a kind.
func someText(g *rand.Rand, kind int) string {
	if g.IntN(3) == 0 {
		return definedText(kind, someMoment(g))
	}
	day := digits(pick(g, 0, someYear(g), someYear(g), someYear(g), someYear(g)), 4) + "-" + somePart(g, 12) + "-" + pick(g, somePart(g, 31), somePart(g, 28))
	hour := somePart(g, 23) + ":" + somePart(g, 59) + ":" + somePart(g, 59)
	if g.IntN(3) == 0 {
		hour = "24:00:" + pick(g, "00", "00", "00", "01")
	}
	hour += pick(g, "", "", ".0", ".000000", ".5", ".500", "."+digits(g.IntN(1000000), 6), "."+digits(g.IntN(100), 2))
	zone := pick(g, "", "", "Z", pick(g, "+", "-")+somePart(g, 14)+":"+pick(g, "00", somePart(g, 59)))
	return map[int]string{date: day, clock: hour, moment: day + "T" + hour}[kind] + zone
}

// changed returns s, often with a few bytes put in, left out or replaced.
func changed(g *rand.Rand, s string) string {
	for range pick(g, 0, 0, 0, 0, 1, 1, 2) {
		i := g.IntN(len(s) + 1)
		s = s[:i] + pick(g, "", "-", ":", ".", "T", "Z", "+", "0", "2", "9", "00", " ", "/", ";", "t", "\xff", "\u0660", "\n") + s[min(i+g.IntN(2), len(s)):]
	}
	return s
}

// P7.1: texts by chance, against the definition.
func TestParseDefinition(t *testing.T) {
	g := rand.New(rand.NewPCG(1, 2))
	found := map[api.Errno]int{}
	for range 200000 {
		kind := pick(g, kinds()...)
		s := changed(g, someText(g, pick(g, kind, kind, kind, kind, kind, pick(g, kinds()...))))
		want, e := definedParse(kind, s)
		found[e]++
		if got, f := time.Parse(kind, s); got != want || f != e {
			t.Fatalf("Parse of %d %q: %v, %d, not %v, %d", kind, s, got, f, want, e)
		}
	}
	if found[api.OK] < 50000 || found[api.ErrForm] < 50000 || found[api.ErrRange] < 30000 {
		t.Error(found)
	}
}

// P7.1: all short changes of texts, against the definition.
func TestParseChanges(t *testing.T) {
	for kind, s := range map[int]string{date: "2024-02-29-12:30", clock: "24:00:00.0+13:59", moment: "9999-12-31T23:59:59.999999Z"} {
		for i := range len(s) + 1 {
			for c := range 256 {
				for _, s := range []string{s[:i] + string([]byte{byte(c)}) + s[i:], s[:i] + string([]byte{byte(c)}) + s[min(i+1, len(s)):], s[:i] + s[min(i+1, len(s)):], s[:i]} {
					want, e := definedParse(kind, s)
					if got, f := time.Parse(kind, s); got != want || f != e {
						t.Fatalf("Parse of %d %q: %v, %d, not %v, %d", kind, s, got, f, want, e)
					}
				}
			}
		}
	}
}

// P7.1, P7.7: the ends of all months, and their days of the week, against the calendar of Go's library.
func TestCalendar(t *testing.T) {
	for year := 1; year <= 9999; year++ {
		for month := 1; month <= 12; month++ {
			last := lastDay(year, month)
			for day := 28; day <= 32; day++ {
				s := digits(year, 4) + "-" + digits(month, 2) + "-" + digits(day, 2)
				m, e := time.Parse(date, s)
				if (e == api.OK) != (day <= last) || e == api.OK && m != on(year, month, day) {
					t.Fatalf("Parse of %s: %v, %d", s, m, e)
				}
				want := 0
				if day <= last {
					want = weekday(m)
				}
				if got := time.Weekday(on(year, month, day)); got != want {
					t.Fatalf("Weekday of %s: %d, not %d", s, got, want)
				}
			}
		}
	}
}

// weekday returns the day of the week by the calendar of Go's library.
func weekday(m time.Moment) int {
	if n := int(local(m).Weekday()); n > 0 {
		return n
	}
	return 7
}

// local returns the local time of m by the calendar of Go's library, in its zone.
func local(m time.Moment) calendar.Time {
	second := new(big.Rat).Mul(rat(m.Second), rat("1000000000"))
	return calendar.Date(m.Year, calendar.Month(m.Month), m.Day, m.Hour, m.Minute, 0, int(second.Num().Int64()), calendar.FixedZone("", 60*m.Zone))
}

// from returns the moment of a local time, with or without its zone; ErrRange if it is out of range.
func from(c calendar.Time, has bool) (time.Moment, api.Errno) {
	if c.Year() < 1 || c.Year() > 9999 {
		return time.Moment{}, api.ErrRange
	}
	m := time.Moment{Year: c.Year(), Month: int(c.Month()), Day: c.Day(), Hour: c.Hour(), Minute: c.Minute(), Has: has}
	m.Second = canonical(big.NewRat(int64(c.Second())*1000000000+int64(c.Nanosecond()), 1000000000))
	if _, seconds := c.Zone(); has {
		m.Zone = seconds / 60
	}
	return m, api.OK
}

// P7.2, P7.3, P7.7: moments by chance, against the definitions.
func TestMomentsDefinition(t *testing.T) {
	g := rand.New(rand.NewPCG(3, 4))
	for range 50000 {
		m := someMoment(g)
		for _, kind := range kinds() {
			want := definedText(kind, m)
			if s, e := time.Text(kind, m); s != want || e != api.OK {
				t.Fatalf("Text of %d %v: %q, %d, not %s", kind, m, s, e, want)
			}
		}
		want := canonical(big.NewRat(local(m).UnixMicro(), 1000000))
		if s, e := time.Seconds(m); s != want || e != api.OK {
			t.Fatalf("Seconds of %v: %q, %d, not %s", m, s, e, want)
		}
		if n := time.Weekday(m); n != weekday(m) {
			t.Fatalf("Weekday of %v: %d", m, n)
		}
	}
}

// P7.4: moments and months by chance, against the definition.
func TestAddMonthsDefinition(t *testing.T) {
	g := rand.New(rand.NewPCG(5, 6))
	found := map[api.Errno]int{}
	for range 100000 {
		m := someMoment(g)
		n := pick(g, 1, -1) * g.IntN(pick(g, 2, 13, 60, 1000, 120000, 200000))
		want, e := m, api.OK
		if first := calendar.Date(m.Year, calendar.Month(m.Month+n), 1, 0, 0, 0, 0, calendar.UTC); first.Year() < 1 || first.Year() > 9999 {
			want, e = time.Moment{}, api.ErrRange
		} else {
			want.Year, want.Month = first.Year(), int(first.Month())
			want.Day = min(m.Day, lastDay(want.Year, want.Month))
		}
		found[e]++
		if got, f := time.AddMonths(m, n); got != want || f != e {
			t.Fatalf("AddMonths of %v and %d: %v, %d, not %v, %d", m, n, got, f, want, e)
		}
	}
	if found[api.OK] < 50000 || found[api.ErrRange] < 10000 {
		t.Error(found)
	}
}

// rounded returns a number of seconds as microseconds, rounded "even".
func rounded(x *big.Rat) *big.Int {
	micros := new(big.Rat).Mul(x, rat("1000000"))
	// Half a unit more, and then the greatest whole number that is not above it: of two that are equally near, the greater one.
	whole := new(big.Rat).Add(micros, big.NewRat(1, 2))
	n := new(big.Int).Div(whole.Num(), whole.Denom())
	if whole.IsInt() && n.Bit(0) == 1 {
		n.Sub(n, big.NewInt(1))
	}
	return n
}

// definedAddSeconds returns what AddSeconds returns by its definition. (What num.Round is passed is the canonical text of the number, which has at most 20 digits after the point.)
func definedAddSeconds(m time.Moment, n string) (time.Moment, api.Errno) {
	n, e := num.Parse(n)
	if e != api.OK {
		return time.Moment{}, e
	}
	micros := rounded(rat(n))
	micros.Add(micros, big.NewInt(local(m).UnixMicro()))
	// No year is that far from 1970; nearer ones can be counted by the library.
	if new(big.Int).Abs(micros).Cmp(big.NewInt(1e18)) > 0 {
		return time.Moment{}, api.ErrRange
	}
	return from(calendar.UnixMicro(micros.Int64()).In(local(m).Location()), m.Has)
}

// someNumber returns a number by chance as it can be passed to AddSeconds.
func someNumber(g *rand.Rand) string {
	s := pick(g, "", "", "+", "-", "-") + strings.Repeat("0", pick(g, 0, 0, 0, 2)) + strconv.FormatInt(g.Int64N(pick[int64](g, 2, 100, 4000, 100000, 1e8, 1e10, 3e11, 1e12, 1e18)), 10) + pick(g, "", "", "", "", "", "", strings.Repeat("0", 10), strings.Repeat("9", 20))
	switch g.IntN(4) {
	case 0:
		s += "." + digits(g.IntN(1000000), 6)
	case 1:
		s += "." + digits(g.IntN(1000000), 6) + pick(g, "5", "4999", "5000", "50001", "6", "49999999999999", "50000000000001")
	}
	return s
}

// P7.5: moments and seconds by chance, against the definition.
func TestAddSecondsDefinition(t *testing.T) {
	g := rand.New(rand.NewPCG(7, 8))
	found := map[api.Errno]int{}
	for range 100000 {
		m, n := someMoment(g), someNumber(g)
		if g.IntN(10) == 0 {
			n = changed(g, n)
		}
		want, e := definedAddSeconds(m, n)
		found[e]++
		if got, f := time.AddSeconds(m, n); got != want || f != e {
			t.Fatalf("AddSeconds of %v and %s: %v, %d, not %v, %d", m, n, got, f, want, e)
		}
	}
	if found[api.OK] < 40000 || found[api.ErrForm] < 1000 || found[api.ErrRange] < 10000 || found[api.ErrPlus] < 1000 {
		t.Error(found)
	}
}

// P7.6: moments and zones by chance, against the definition.
func TestAdjustDefinition(t *testing.T) {
	g := rand.New(rand.NewPCG(9, 10))
	found := map[api.Errno]int{}
	for range 100000 {
		m, has := someMoment(g), g.IntN(4) > 0
		if g.IntN(4) == 0 {
			// Near the first and the last time, another zone can lead out of the years.
			m.Year, m.Month, m.Day = 1, 1, 1
			if g.IntN(2) == 0 {
				m.Year, m.Month, m.Day = 9999, 12, 31
			}
		}
		zone := pick(g, 0, 840, -840, 841, -841, g.IntN(1681)-840, g.IntN(1681)-840, g.IntN(1681)-840, g.IntN(4000)-2000)
		want, e := m, api.OK
		switch {
		case !has:
			want.Zone, want.Has = 0, false
		case zone < -840 || zone > 840:
			want, e = time.Moment{}, api.ErrArg
		case !m.Has:
			want.Zone, want.Has = zone, true
		default:
			want, e = from(local(m).In(calendar.FixedZone("", 60*zone)), true)
		}
		found[e]++
		if got, f := time.Adjust(m, zone, has); got != want || f != e {
			t.Fatalf("Adjust of %v to %d, %t: %v, %d, not %v, %d", m, zone, has, got, f, want, e)
		}
	}
	if found[api.OK] < 40000 || found[api.ErrArg] < 5000 || found[api.ErrRange] < 1000 {
		t.Error(found)
	}
}
