package date

const (
	lastYear      = 9999
	longestYear   = 366
	secondsOfDay  = 24 * secondsOfHour
	secondsOfHour = 60 * 60
)

// clockNumber is how many seconds a clock's time is behind 00:00:00.
func clockNumber(hour, minute, second int64) (int64, bool) {
	if hour > 23 || minute > 59 || second > 59 {
		return 0, false
	}
	return hour*secondsOfHour + minute*60 + second, true
}

// clockText is the clock's time of a second of a day.
func clockText(second int64) string {
	return digits(second/secondsOfHour, 2) + ":" + digits(second/60%60, 2) + ":" + digits(second%60, 2)
}

// dayNumber is how many days one is behind 0000-01-01.
func dayNumber(year, month, day int64) (int64, bool) {
	if month < 1 || month > 12 || day < 1 || day > daysOf(year, month) {
		return 0, false
	}
	days := daysAhead(year) + day - 1
	for m := int64(1); m < month; m++ {
		days += daysOf(year, m)
	}
	return days, true
}

// dayText is the year, month and day that are so many days behind 0000-01-01.
func dayText(days int64) string {
	// No year is longer, so the one looked for is this one, or comes behind it.
	year := days / longestYear
	for daysAhead(year+1) <= days {
		year++
	}
	days -= daysAhead(year)
	month := int64(1)
	for days >= daysOf(year, month) {
		days -= daysOf(year, month)
		month++
	}
	return digits(year, 4) + "-" + digits(month, 2) + "-" + digits(days+1, 2)
}

// daysAhead is how many days the years ahead of one have.
func daysAhead(year int64) int64 {
	// The year 0000 has a February 29 and is ahead of all others, so the divisions round up.
	return 365*year + (year+3)/4 - (year+99)/100 + (year+399)/400
}

// daysOf is how many days a month has.
func daysOf(year, month int64) int64 {
	switch month {
	case 4, 6, 9, 11:
		return 30
	case 2:
		if year%4 == 0 && year%100 != 0 || year%400 == 0 {
			return 29
		}
		return 28
	}
	return 31
}
