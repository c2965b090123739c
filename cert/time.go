package cert

import (
	"sort"
	"strconv"
	"strings"

	"cresset/api"
)

const (
	maxTime = 253402300799 // the last second of the year 9999

	minuteSeconds = 60
	hourSeconds   = 60 * minuteSeconds
	daySeconds    = 24 * hourSeconds

	firstYear  = 1970
	cycleYears = 400 // after which the leap years repeat
	cycleDays  = 400*365 + 97
)

// Time is a time as a certificate has it.
func Time(n int) (string, api.Errno) {
	if !isTime(n) {
		return "", api.ErrArg
	}
	return stamp(n), api.OK
}

// isTime tells whether a number is a time.
func isTime(n int) bool {
	return n >= 0 && n <= maxTime
}

// stamp is Time of a time.
func stamp(n int) string {
	year, month, day := dateOf(n / daySeconds)
	second := n % daySeconds
	hour, minute := second/hourSeconds, second/minuteSeconds%60
	return digits(4, year) + digits(2, month) + digits(2, day) + digits(2, hour) + digits(2, minute) + digits(2, second%60) + "Z"
}

// timeOf is the time whose stamp a text is. Stamps compare like their times, so
// it can be searched for. For any other text it is some other time.
func timeOf(text string) int {
	return sort.Search(maxTime, func(n int) bool { return stamp(n) >= text })
}

// dateOf is the year, the month and the day after so many days.
func dateOf(days int) (int, int, int) {
	year := firstYear + cycleYears*(days/cycleDays)
	days %= cycleDays
	for days >= daysOfYear(year) {
		days -= daysOfYear(year)
		year++
	}
	month := 1
	for days >= daysOfMonth(year, month) {
		days -= daysOfMonth(year, month)
		month++
	}
	return year, month, 1 + days
}

func daysOfYear(year int) int {
	if isLeap(year) {
		return 366
	}
	return 365
}

func daysOfMonth(year, month int) int {
	switch month {
	case 2:
		if isLeap(year) {
			return 29
		}
		return 28
	case 4, 6, 9, 11:
		return 30
	}
	return 31
}

func isLeap(year int) bool {
	return year%4 == 0 && year%100 != 0 || year%400 == 0
}

// digits is a number with zeros ahead of it, up to a width.
func digits(width, n int) string {
	s := strconv.Itoa(n)
	return strings.Repeat("0", width-len(s)) + s
}
