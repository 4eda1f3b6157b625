package time

// maxYear is the greatest year; the least one is 1.
const maxYear = 9999

// monthDays has the days of the months of a year that is no leap year.
var monthDays = [...]int{31, 28, 31, 30, 31, 30, 31, 31, 30, 31, 30, 31}

// isLeap reports whether a year is a leap year.
func isLeap(year int) bool {
	return year%4 == 0 && year%100 != 0 || year%400 == 0
}

// daysOf returns the number of days of a month, which is from 1 to 12.
func daysOf(year, month int) int {
	if month == 2 && isLeap(year) {
		return 29
	}
	return monthDays[month-1]
}

// daysBefore returns the number of days of all years before this one.
func daysBefore(year int) int {
	past := year - 1
	return 365*past + past/4 - past/100 + past/400
}

// dayNumber returns the number of days from the first day of the year 1 to a date.
func dayNumber(year, month, day int) int {
	n := daysBefore(year) + day - 1
	for before := 1; before < month; before++ {
		n += daysOf(year, before)
	}
	return n
}

// dateOf returns the date that is n days after the first day of the year 1. n is not below 0.
func dateOf(n int) (year, month, day int) {
	// No year has more than 366 days, so at least that many years are over.
	year = 1 + n/366
	for daysBefore(year+1) <= n {
		year++
	}
	n -= daysBefore(year)
	month = 1
	for n >= daysOf(year, month) {
		n -= daysOf(year, month)
		month++
	}
	return year, month, n + 1
}
