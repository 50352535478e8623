package date_test

import (
	"math"
	"math/rand"
	"regexp"
	"strconv"
	"strings"
	"testing"
	"time"

	"pantry/api"
	"pantry/date"
)

const (
	layout   = "Mon, 02 Jan 2006 15:04:05 GMT"
	lastDay  = api.MaxTime / 86400
	dayCount = lastDay + 1
)

// known are times and their dates, written out by hand.
var known = map[int]string{
	0:               "Thu, 01 Jan 1970 00:00:00 GMT",
	1:               "Thu, 01 Jan 1970 00:00:01 GMT",
	59:              "Thu, 01 Jan 1970 00:00:59 GMT",
	60:              "Thu, 01 Jan 1970 00:01:00 GMT",
	3599:            "Thu, 01 Jan 1970 00:59:59 GMT",
	3600:            "Thu, 01 Jan 1970 01:00:00 GMT",
	86399:           "Thu, 01 Jan 1970 23:59:59 GMT",
	86400:           "Fri, 02 Jan 1970 00:00:00 GMT",
	31535999:        "Thu, 31 Dec 1970 23:59:59 GMT",
	31536000:        "Fri, 01 Jan 1971 00:00:00 GMT",
	784111777:       "Sun, 06 Nov 1994 08:49:37 GMT",
	951782400:       "Tue, 29 Feb 2000 00:00:00 GMT",
	951868800:       "Wed, 01 Mar 2000 00:00:00 GMT",
	1709251199:      "Thu, 29 Feb 2024 23:59:59 GMT",
	1735689599:      "Tue, 31 Dec 2024 23:59:59 GMT",
	2147483648:      "Tue, 19 Jan 2038 03:14:08 GMT",
	4107542399:      "Sun, 28 Feb 2100 23:59:59 GMT",
	4107542400:      "Mon, 01 Mar 2100 00:00:00 GMT",
	4294967296:      "Sun, 07 Feb 2106 06:28:16 GMT",
	api.MaxTime - 1: "Fri, 31 Dec 9999 23:59:58 GMT",
	api.MaxTime:     "Fri, 31 Dec 9999 23:59:59 GMT",
}

var noTimes = []int{-1, -86400, -31536000, math.MinInt32, math.MinInt, math.MinInt + 1, api.MaxTime + 1, api.MaxTime + 86400, 1 << 62, math.MaxInt}

func libraryDate(t int) string { return time.Unix(int64(t), 0).UTC().Format(layout) }

// someTimes tells f a time of each day there is: its first second, its last
// one, or one between.
func someTimes(f func(t int)) {
	for day := range dayCount {
		second := [3]int{0, 86399, day * 7919 % 86400}[day%3]
		f(day*86400 + second)
	}
}

func wantDate(t *testing.T, n int, want string) {
	t.Helper()
	if s, e := date.Show(n); e != api.OK || s != want {
		t.Fatalf("Show(%d): %q, %d, not %q", n, s, e, want)
	}
}

func wantTime(t *testing.T, s string, want int) {
	t.Helper()
	if n, e := date.Read(s); e != api.OK || n != want {
		t.Fatalf("Read(%q): %d, %d, not %d", s, n, e, want)
	}
}

func wantNone(t *testing.T, s string) {
	t.Helper()
	if n, e := date.Read(s); e != api.ErrDate || n != 0 {
		t.Errorf("Read(%q): %d, %d", s, n, e)
	}
}

// P2.1

func TestSplit(t *testing.T) {
	for _, c := range [][5]int{
		{0, 1970, 1, 1, 0},
		{86399, 1970, 1, 1, 86399},
		{86400, 1970, 1, 2, 0},
		{31536000, 1971, 1, 1, 0},
		{951782399, 2000, 2, 28, 86399},
		{951782405, 2000, 2, 29, 5},
		{951868800, 2000, 3, 1, 0},
		{978307199, 2000, 12, 31, 86399},
		{978307200, 2001, 1, 1, 0},
		{4107542399, 2100, 2, 28, 86399},
		{4107542400, 2100, 3, 1, 0},
		{api.MaxTime, 9999, 12, 31, 86399},
	} {
		if y, m, d, rest, e := date.Split(c[0]); e != api.OK || [4]int{y, m, d, rest} != [4]int(c[1:]) {
			t.Errorf("Split(%d): %d, %d, %d, %d, %d", c[0], y, m, d, rest, e)
		}
	}
}

func TestSplitOfNoTime(t *testing.T) {
	for _, n := range noTimes {
		if y, m, d, rest, e := date.Split(n); e != api.ErrRange || [4]int{y, m, d, rest} != [4]int{} {
			t.Errorf("Split(%d): %d, %d, %d, %d, %d", n, y, m, d, rest, e)
		}
	}
}

// TestSplitOfEachDay counts the days on from the first one.
func TestSplitOfEachDay(t *testing.T) {
	year, month, day := 1970, 1, 1
	for n := range dayCount {
		rest := n * 7919 % 86400
		if y, m, d, r, e := date.Split(n*86400 + rest); e != api.OK || [4]int{y, m, d, r} != [4]int{year, month, day, rest} {
			t.Fatalf("day %d: %d, %d, %d, %d, %d, not %d, %d, %d, %d", n, y, m, d, r, e, year, month, day, rest)
		}
		day++
		if day > libraryDays(year, month) {
			day, month = 1, month+1
		}
		if month > 12 {
			month, year = 1, year+1
		}
	}
	if year != 10000 {
		t.Errorf("the last day is before the year %d", year)
	}
}

// libraryDays is the day before the next month's first one.
func libraryDays(year, month int) int {
	return time.Date(year, time.Month(month+1), 0, 0, 0, 0, 0, time.UTC).Day()
}

func TestDays(t *testing.T) {
	for month, want := range []int{0, 31, 28, 31, 30, 31, 30, 31, 31, 30, 31, 30, 31, 0} {
		if n := date.Days(1999, month); n != want {
			t.Errorf("Days(1999, %d): %d", month, n)
		}
	}
	for year, want := range map[int]int{1970: 28, 1972: 29, 2000: 29, 2023: 28, 2024: 29, 2100: 28, 2200: 28, 2300: 28, 2400: 29, 9996: 29, 9999: 28} {
		if n := date.Days(year, 2); n != want {
			t.Errorf("Days(%d, 2): %d", year, n)
		}
	}
}

func TestDaysOfEachMonth(t *testing.T) {
	for year := -10; year < 10100; year++ {
		for month := -3; month < 17; month++ {
			want := 0
			if 1970 <= year && year <= 9999 && 1 <= month && month <= 12 {
				want = libraryDays(year, month)
			}
			if n := date.Days(year, month); n != want {
				t.Fatalf("Days(%d, %d): %d, not %d", year, month, n, want)
			}
		}
	}
}

func TestDaysOfFarNumbers(t *testing.T) {
	for _, n := range []int{math.MinInt, math.MinInt32, -1 << 32, math.MaxInt32, 1 << 32, math.MaxInt} {
		// 2000+n and 2+n wrap round to 2000 and 2 in 32 bits, for some.
		for _, two := range [][2]int{{n, 2}, {2000, n}, {n, n}, {2000 + n, 2}, {2000, 2 + n}} {
			if days := date.Days(two[0], two[1]); days != 0 {
				t.Errorf("Days(%d, %d): %d", two[0], two[1], days)
			}
		}
	}
}

// P2.2

func TestShow(t *testing.T) {
	for n, want := range known {
		wantDate(t, n, want)
	}
}

func TestShowOfNoTime(t *testing.T) {
	for _, n := range noTimes {
		if s, e := date.Show(n); e != api.ErrRange || s != "" {
			t.Errorf("Show(%d): %q, %d", n, s, e)
		}
	}
}

func TestShowOfEachDay(t *testing.T) {
	someTimes(func(n int) { wantDate(t, n, libraryDate(n)) })
}

func TestShowOfEachSecond(t *testing.T) {
	for _, day := range []int{0, 11016, lastDay} {
		for n := day * 86400; n < (day+1)*86400; n++ {
			wantDate(t, n, libraryDate(n))
		}
	}
}

// P2.3

func TestRead(t *testing.T) {
	for want, s := range known {
		wantTime(t, s, want)
	}
}

func TestReadOfEachDay(t *testing.T) {
	someTimes(func(n int) { wantTime(t, libraryDate(n), n) })
}

func TestReadOfEachSecond(t *testing.T) {
	for n := 951782400; n < 951782400+86400; n++ {
		wantTime(t, libraryDate(n), n)
	}
}

func TestReadOfNoDate(t *testing.T) {
	for _, s := range []string{
		// Of another length, or form.
		"", " ", "0", "784111777", "GMT",
		"Sun, 06 Nov 1994 08:49:37 GM",
		"Sun, 06 Nov 1994 08:49:37 GMTT",
		"Sun, 06 Nov 1994 08:49:37 GMT ",
		" Sun, 06 Nov 1994 08:49:37 GMT",
		"un, 06 Nov 1994 08:49:37 GMT ",
		"Sun, 6 Nov 1994 08:49:37 GMT",
		"Sun,  6 Nov 1994 08:49:37 GMT",
		"Sun, 06 Nov 94 08:49:37 GMT",
		"Sun, 006 Nov 194 08:49:37 GMT",
		"Sunday, 06-Nov-94 08:49:37 GMT",
		"Sun Nov  6 08:49:37 1994",
		"Sun, 06 Nov 1994 08:49:37 UTC",
		"Sun, 06 Nov 1994 08:49:37 gmt",
		"sun, 06 Nov 1994 08:49:37 GMT",
		"SUN, 06 Nov 1994 08:49:37 GMT",
		"Sun, 06 nov 1994 08:49:37 GMT",
		"Sun, 06 NOV 1994 08:49:37 GMT",
		"Sun, 06 ovD 1994 08:49:37 GMT",
		"Sun, 06 Now 1994 08:49:37 GMT",
		"Sun; 06 Nov 1994 08:49:37 GMT",
		"Sun,\t06 Nov 1994 08:49:37 GMT",
		"Sun, 06-Nov-1994 08:49:37 GMT",
		"Sun, 06 Nov 1994T08:49:37 GMT",
		"Sun, 06 Nov 1994 08-49:37 GMT",
		"Sun, 06 Nov 1994 08:49.37 GMT",
		"Sun, 06 Nov 1994 08:49:37\x00GMT",
		strings.Repeat("\x00", 29), strings.Repeat("\xff", 29), strings.Repeat("0", 29), strings.Repeat("9", 29),

		// Signs that are no digits, but could be read as some.
		"Sun, +6 Nov 1994 08:49:37 GMT",
		"Sun, 0: Nov 1994 08:49:37 GMT",
		"Sun, 06 Nov +994 08:49:37 GMT",
		"Sun, 06 Nov 1_94 08:49:37 GMT",
		"Sun, 06 Nov 199> 08:49:37 GMT",
		"Sun, 06 Nov 1994 +8:49:37 GMT",
		"Sun, 06 Nov 1994 08:-1:37 GMT",
		"Sun, 06 Nov 1994 08:49:3G GMT",
		"Sun, 06 Nov 1994 08:48:0a GMT",
		"Sun, 06 Nov 1994 08:49:-3 GMT",

		// Days, hours, minutes and seconds that aren't there.
		"Mon, 31 Oct 1994 24:00:00 GMT",
		"Sun, 06 Nov 1994 24:49:37 GMT",
		"Sun, 06 Nov 1994 24:00:00 GMT",
		"Sun, 06 Nov 1994 08:60:00 GMT",
		"Sun, 06 Nov 1994 08:49:60 GMT",
		"Fri, 31 Dec 9999 23:59:60 GMT",
		"Sat, 31 Dec 2016 23:59:60 GMT",
		"Sun, 06 Nov 1994 99:99:99 GMT",
		"Mon, 00 Nov 1994 08:49:37 GMT",
		"Thu, 31 Nov 1994 08:49:37 GMT",
		"Fri, 32 Dec 1999 00:00:00 GMT",
		"Sat, 32 Dec 1999 00:00:00 GMT",
		"Mon, 29 Feb 2100 00:00:00 GMT",
		"Wed, 29 Feb 2023 00:00:00 GMT",
		"Wed, 30 Feb 2000 00:00:00 GMT",
		"Sun, 99 Nov 1994 08:49:37 GMT",

		// Years before the first one. Their last days' weekdays are right.
		"Wed, 31 Dec 1969 23:59:59 GMT",
		"Wed, 00 Jan 1970 23:59:59 GMT",
		"Mon, 01 Jan 1900 00:00:00 GMT",
		"Sat, 01 Jan 0000 00:00:00 GMT",
		"Mon, 01 Jan 0001 00:00:00 GMT",
		"Thu, 29 Feb 1968 00:00:00 GMT",
	} {
		wantNone(t, s)
	}
}

func TestReadOfOtherWeekdays(t *testing.T) {
	for day := 0; day < dayCount; day += 997 {
		right := libraryDate(day*86400 + 4711)
		for _, name := range []string{"Mon", "Tue", "Wed", "Thu", "Fri", "Sat", "Sun", "mon", "Day", "   "} {
			if s := name + right[3:]; s == right {
				wantTime(t, s, day*86400+4711)
			} else {
				wantNone(t, s)
			}
		}
	}
}

var form = regexp.MustCompile(`^(?:Mon|Tue|Wed|Thu|Fri|Sat|Sun), (\d\d) (Jan|Feb|Mar|Apr|May|Jun|Jul|Aug|Sep|Oct|Nov|Dec) (\d{4}) (\d\d):(\d\d):(\d\d) GMT$`)

// plainRead reads a date by its form, and holds the library's date for its
// parts against it.
func plainRead(s string) (int, bool) {
	parts := form.FindStringSubmatch(s)
	if parts == nil {
		return 0, false
	}
	number := func(i int) int {
		n, _ := strconv.Atoi(parts[i])
		return n
	}
	month := strings.Index("JanFebMarAprMayJunJulAugSepOctNovDec", parts[2])/3 + 1
	at := time.Date(number(3), time.Month(month), number(1), number(4), number(5), number(6), 0, time.UTC)
	n := int(at.Unix())
	if n < 0 || n > api.MaxTime || at.Format(layout) != s {
		return 0, false
	}
	return n, true
}

func holdRead(t *testing.T, s string) {
	t.Helper()
	if want, ok := plainRead(s); ok {
		wantTime(t, s, want)
	} else {
		wantNone(t, s)
	}
}

// TestReadOfEachChange changes each byte of some dates to each other one,
// leaves each out, and doubles each.
func TestReadOfEachChange(t *testing.T) {
	for _, s := range known {
		for i := range len(s) {
			holdRead(t, s[:i]+s[i+1:])
			holdRead(t, s[:i]+s[i:i+1]+s[i:])
			for c := range 256 {
				holdRead(t, s[:i]+string([]byte{byte(c)})+s[i+1:])
			}
		}
	}
}

// TestReadOfEachPart puts each two digits, and each month, at their places.
func TestReadOfEachPart(t *testing.T) {
	s := "Tue, 29 Feb 2000 12:34:56 GMT"
	for n := range 100 {
		digits := strconv.Itoa(n/10) + strconv.Itoa(n%10)
		for _, i := range []int{5, 12, 14, 17, 20, 23} {
			for _, name := range []string{"Mon", "Tue", "Wed", "Thu", "Fri", "Sat", "Sun"} {
				holdRead(t, name+s[3:i]+digits+s[i+2:])
			}
		}
	}
	for _, month := range []string{"Jan", "Feb", "Mar", "Apr", "May", "Jun", "Jul", "Aug", "Sep", "Oct", "Nov", "Dec", "Mai", "anF", "   "} {
		for _, name := range []string{"Mon", "Tue", "Wed", "Thu", "Fri", "Sat", "Sun"} {
			holdRead(t, name+s[3:8]+month+s[11:])
		}
	}
}

func TestReadOfOldAndFarYears(t *testing.T) {
	for year := range 10000 {
		digits := strconv.Itoa(10000 + year)[1:]
		for _, name := range []string{"Mon", "Tue", "Wed", "Thu", "Fri", "Sat", "Sun"} {
			holdRead(t, name+", 31 Dec "+digits+" 23:59:59 GMT")
			holdRead(t, name+", 29 Feb "+digits+" 00:00:00 GMT")
		}
	}
}

// TestReadOfAnyTexts reads texts of a date's length and others, of any bytes
// and of a date's.
func TestReadOfAnyTexts(t *testing.T) {
	random := rand.New(rand.NewSource(1))
	for range 200000 {
		s := make([]byte, 27+random.Intn(5))
		for i := range s {
			s[i] = byte(random.Intn(256))
		}
		holdRead(t, string(s))
		copy(s, libraryDate(random.Intn(api.MaxTime+1)))
		for range random.Intn(3) {
			s[random.Intn(len(s))] = "0123456789 :,GMTSun"[random.Intn(19)]
		}
		holdRead(t, string(s))
	}
}

func TestShowAndReadOfAnyTimes(t *testing.T) {
	random := rand.New(rand.NewSource(2))
	for range 100000 {
		n := random.Intn(api.MaxTime + 1)
		s := libraryDate(n)
		wantDate(t, n, s)
		wantTime(t, s, n)
	}
}
