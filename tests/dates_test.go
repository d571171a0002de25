package tests

import (
	"math"
	"testing"
	"time"

	"loop.example/g00803/impl"
)

const (
	firstSecond = -11644473600
	lastSecond  = 253402300799
	daySeconds  = 86400
)

func dateFrom(year, month, day, hour, minute, second int) impl.Date {
	return impl.Date{Year: year, Month: month, Day: day, Hour: hour, Minute: minute, Second: second}
}

func dateOfTime(m time.Time) impl.Date {
	return dateFrom(m.Year(), int(m.Month()), m.Day(), m.Hour(), m.Minute(), m.Second())
}

func timeOfDate(d impl.Date) time.Time {
	return time.Date(d.Year, time.Month(d.Month), d.Day, d.Hour, d.Minute, d.Second, 0, time.UTC)
}

// validByTime holds for fields that are not too large for package time, which brings invalid fields into their ranges.
func validByTime(d impl.Date) bool {
	return d.Year >= 1601 && d.Year <= 9999 && dateOfTime(timeOfDate(d)) == d
}

func checkInvalid(t *testing.T, d impl.Date) {
	t.Helper()
	if impl.DateOK(d) {
		t.Errorf("DateOK(%v) is true", d)
	}
	if n, code := impl.Seconds(d); n != 0 || code != impl.ErrBad {
		t.Errorf("Seconds(%v) = %d, %d, want 0, ErrBad", d, n, code)
	}
	if n, code := impl.Weekday(d); n != 0 || code != impl.ErrBad {
		t.Errorf("Weekday(%v) = %d, %d, want 0, ErrBad", d, n, code)
	}
	if s, code := impl.DateText(d); s != "" || code != impl.ErrBad {
		t.Errorf("DateText(%v) = %q, %d, want ErrBad", d, s, code)
	}
}

func checkSeconds(t *testing.T, d impl.Date, want int) {
	t.Helper()
	if !impl.DateOK(d) {
		t.Errorf("DateOK(%v) is false", d)
	}
	if n, code := impl.Seconds(d); n != want || code != 0 {
		t.Errorf("Seconds(%v) = %d, %d, want %d", d, n, code, want)
	}
	if got, code := impl.DateOf(want); got != d || code != 0 {
		t.Errorf("DateOf(%d) = %v, %d, want %v", want, got, code, d)
	}
}

func checkText(t *testing.T, d impl.Date, weekday int, want string) {
	t.Helper()
	if n, code := impl.Weekday(d); n != weekday || code != 0 {
		t.Errorf("Weekday(%v) = %d, %d, want %d", d, n, code, weekday)
	}
	if s, code := impl.DateText(d); s != want || code != 0 {
		t.Errorf("DateText(%v) = %q, %d, want %q", d, s, code, want)
	}
	if got, code := impl.ReadDate(want); got != d || code != 0 {
		t.Errorf("ReadDate(%q) = %v, %d, want %v", want, got, code, d)
	}
}

func checkDate(t *testing.T, d impl.Date) {
	t.Helper()
	if !validByTime(d) {
		checkInvalid(t, d)
		return
	}
	m := timeOfDate(d)
	checkSeconds(t, d, int(m.Unix()))
	checkText(t, d, int(m.Weekday()), m.Format("Mon, 02 Jan 2006 15:04:05 GMT"))
}

func TestP1DateLimits(t *testing.T) {
	if impl.MinYear != 1601 || impl.MaxYear != 9999 {
		t.Error("limits of dates", impl.MinYear, impl.MaxYear)
	}
}

func TestP5DateCases(t *testing.T) {
	for _, v := range []struct {
		d          impl.Date
		n, weekday int
		text       string
	}{
		{dateFrom(1970, 1, 1, 0, 0, 0), 0, 4, "Thu, 01 Jan 1970 00:00:00 GMT"},
		{dateFrom(1970, 1, 1, 0, 0, 1), 1, 4, "Thu, 01 Jan 1970 00:00:01 GMT"},
		{dateFrom(1969, 12, 31, 23, 59, 59), -1, 3, "Wed, 31 Dec 1969 23:59:59 GMT"},
		{dateFrom(1969, 12, 31, 0, 0, 0), -86400, 3, "Wed, 31 Dec 1969 00:00:00 GMT"},
		{dateFrom(1969, 12, 30, 23, 59, 59), -86401, 2, "Tue, 30 Dec 1969 23:59:59 GMT"},
		{dateFrom(1970, 1, 2, 0, 0, 0), 86400, 5, "Fri, 02 Jan 1970 00:00:00 GMT"},
		{dateFrom(1972, 2, 29, 0, 0, 0), 68169600, 2, "Tue, 29 Feb 1972 00:00:00 GMT"},
		{dateFrom(1994, 11, 6, 8, 49, 37), 784111777, 0, "Sun, 06 Nov 1994 08:49:37 GMT"},
		{dateFrom(1900, 2, 28, 0, 0, 0), -2203977600, 3, "Wed, 28 Feb 1900 00:00:00 GMT"},
		{dateFrom(1900, 3, 1, 0, 0, 0), -2203891200, 4, "Thu, 01 Mar 1900 00:00:00 GMT"},
		{dateFrom(2000, 2, 29, 12, 0, 1), 951825601, 2, "Tue, 29 Feb 2000 12:00:01 GMT"},
		{dateFrom(2000, 3, 1, 0, 0, 0), 951868800, 3, "Wed, 01 Mar 2000 00:00:00 GMT"},
		{dateFrom(2038, 1, 19, 3, 14, 8), 2147483648, 2, "Tue, 19 Jan 2038 03:14:08 GMT"},
		{dateFrom(2026, 11, 14, 6, 7, 8), 1794636428, 6, "Sat, 14 Nov 2026 06:07:08 GMT"},
		{dateFrom(1601, 1, 1, 0, 0, 0), firstSecond, 1, "Mon, 01 Jan 1601 00:00:00 GMT"},
		{dateFrom(9999, 12, 31, 23, 59, 59), lastSecond, 5, "Fri, 31 Dec 9999 23:59:59 GMT"},
	} {
		checkSeconds(t, v.d, v.n)
		checkText(t, v.d, v.weekday, v.text)
		checkDate(t, v.d)
	}
}

func TestP5EveryMonthAndItsName(t *testing.T) {
	for i, want := range []string{
		"Sat, 01 Jan 2000 01:02:03 GMT", "Tue, 01 Feb 2000 01:02:03 GMT", "Wed, 01 Mar 2000 01:02:03 GMT", "Sat, 01 Apr 2000 01:02:03 GMT",
		"Mon, 01 May 2000 01:02:03 GMT", "Thu, 01 Jun 2000 01:02:03 GMT", "Sat, 01 Jul 2000 01:02:03 GMT", "Tue, 01 Aug 2000 01:02:03 GMT",
		"Fri, 01 Sep 2000 01:02:03 GMT", "Sun, 01 Oct 2000 01:02:03 GMT", "Wed, 01 Nov 2000 01:02:03 GMT", "Fri, 01 Dec 2000 01:02:03 GMT",
	} {
		d := dateFrom(2000, i+1, 1, 1, 2, 3)
		if got, code := impl.DateText(d); got != want || code != 0 {
			t.Errorf("DateText(%v) = %q, %d, want %q", d, got, code, want)
		}
		checkDate(t, d)
	}
}

func TestP5DaysAroundEachMonth(t *testing.T) {
	for _, year := range []int{-1, 0, 1, 99, 1599, 1600, 1601, 1602, 1603, 1604, 1700, 1800, 1899, 1900, 1904, 1969, 1970, 1996, 1999, 2000, 2001, 2004, 2023, 2024, 2100, 2200, 2300, 2400, 4000, 9600, 9900, 9996, 9998, 9999, 10000, 10001} {
		for month := -1; month <= 14; month++ {
			for day := -1; day <= 33; day++ {
				checkDate(t, dateFrom(year, month, day, 12, 30, 15))
			}
		}
	}
}

func TestP5LeapDays(t *testing.T) {
	for year := 1590; year <= 10010; year++ {
		leap := year >= 1601 && year <= 9999 && year%4 == 0 && (year%100 != 0 || year%400 == 0)
		if got := impl.DateOK(dateFrom(year, 2, 29, 0, 0, 0)); got != leap {
			t.Errorf("DateOK is %v for 29 February %d", got, year)
		}
		if impl.DateOK(dateFrom(year, 2, 30, 0, 0, 0)) {
			t.Errorf("DateOK is true for 30 February %d", year)
		}
		checkDate(t, dateFrom(year, 2, 28, 23, 59, 59))
		checkDate(t, dateFrom(year, 3, 1, 0, 0, 0))
	}
}

func TestP5ClockLimits(t *testing.T) {
	for hour := -2; hour <= 26; hour++ {
		for minute := -2; minute <= 62; minute++ {
			for _, second := range []int{-61, -60, -1, 0, 1, 30, 58, 59, 60, 61, 99} {
				checkDate(t, dateFrom(2000, 2, 29, hour, minute, second))
			}
		}
	}
	for second := -100; second <= 200; second++ {
		checkDate(t, dateFrom(1970, 1, 1, 0, 0, second))
	}
}

// setField returns d with another value in its field of this number.
func setField(d impl.Date, field, n int) impl.Date {
	*[]*int{&d.Year, &d.Month, &d.Day, &d.Hour, &d.Minute, &d.Second}[field] = n
	return d
}

var extremes = []int{
	math.MinInt, math.MinInt + 1, math.MinInt32, math.MinInt32 - 1, -1 << 33, -10000, -400, -100, -60, -24, -12, -4, -1,
	10000, math.MaxInt32, math.MaxInt32 + 1, 1<<32 + 1, 1 << 33, 1<<62 + 1, math.MaxInt - 1, math.MaxInt,
}

func TestP1AnyIntegerInEveryField(t *testing.T) {
	valid := dateFrom(2000, 1, 1, 1, 1, 1)
	for _, n := range extremes {
		every := valid
		for field := range 6 {
			checkInvalid(t, setField(valid, field, n))
			every = setField(every, field, n)
			checkInvalid(t, every)
			checkInvalid(t, setField(impl.Date{}, field, n))
		}
	}
	checkInvalid(t, impl.Date{})
}

func TestP1FieldsJustOutOfRange(t *testing.T) {
	for field, bad := range [][]int{{0, 1600, 10000}, {0, 13}, {0, 32}, {-1, 24}, {-1, 60}, {-1, 60}} {
		for _, d := range []impl.Date{dateFrom(1601, 1, 1, 0, 0, 0), dateFrom(9999, 12, 31, 23, 59, 59), dateFrom(2000, 1, 31, 12, 30, 30)} {
			checkDate(t, d)
			for _, n := range bad {
				checkInvalid(t, setField(d, field, n))
			}
		}
	}
}

func TestP5FirstAndLastSeconds(t *testing.T) {
	for _, n := range []int{firstSecond, firstSecond + 1, firstSecond + daySeconds - 1, firstSecond + daySeconds, lastSecond - daySeconds, lastSecond - 1, lastSecond} {
		checkSeconds(t, dateOfTime(time.Unix(int64(n), 0).UTC()), n)
	}
	for _, n := range []int{firstSecond - 1, firstSecond - 2, firstSecond - daySeconds, lastSecond + 1, lastSecond + 2, lastSecond + daySeconds, 2 * firstSecond, 2 * lastSecond, math.MinInt, math.MinInt + 1, math.MinInt + daySeconds, math.MaxInt, math.MaxInt - 1, math.MaxInt + firstSecond, -1 << 62, 1 << 62} {
		if d, code := impl.DateOf(n); d != (impl.Date{}) || code != impl.ErrRange {
			t.Errorf("DateOf(%d) = %v, %d, want ErrRange", n, d, code)
		}
	}
}

func TestP5SecondsBefore1970(t *testing.T) {
	for n := -3 * daySeconds; n <= 3*daySeconds; n += 7 {
		checkSeconds(t, dateOfTime(time.Unix(int64(n), 0).UTC()), n)
	}
	for n := -130; n <= 130; n++ {
		checkDate(t, dateOfTime(time.Unix(int64(n), 0).UTC()))
	}
}

func TestP5EveryDayAndItsWeekday(t *testing.T) {
	weekday := 0
	for n := firstSecond; n <= lastSecond; n += daySeconds {
		d, code := impl.DateOf(n)
		back, backCode := impl.Seconds(d)
		if code != 0 || back != n || backCode != 0 || d.Hour != 0 || d.Minute != 0 || d.Second != 0 {
			t.Fatalf("DateOf(%d) = %v, %d, and its Seconds are %d, %d", n, d, code, back, backCode)
		}
		weekday = (weekday + 1) % 7
		if got, code := impl.Weekday(d); got != weekday || code != 0 {
			t.Fatalf("Weekday(%v) = %d, %d, want %d", d, got, code, weekday)
		}
	}
}

func TestP5TheWeekdayDoesNotDependOnTheClock(t *testing.T) {
	for n := firstSecond; n <= lastSecond; n += 997 * daySeconds {
		first, _ := impl.DateOf(n)
		last, _ := impl.DateOf(n + daySeconds - 1)
		a, code := impl.Weekday(first)
		b, lastCode := impl.Weekday(last)
		if a != b || code != 0 || lastCode != 0 {
			t.Errorf("Weekday(%v) = %d, %d, but Weekday(%v) = %d, %d", first, a, code, last, b, lastCode)
		}
	}
}

func TestP5DatesAllOverTheRange(t *testing.T) {
	for n := firstSecond; n <= lastSecond; n += 41*daySeconds + 12345 {
		checkDate(t, dateOfTime(time.Unix(int64(n), 0).UTC()))
	}
}
