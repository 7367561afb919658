package date_test

import (
	"bytes"
	"fmt"
	"math"
	"math/rand"
	"regexp"
	"slices"
	"strings"
	"testing"
	"time"

	"greffier/date"
)

const (
	layout = "2006-01-02_15:04:05"
	hour   = 60 * 60
	day    = 24 * hour
	// days are those of the years 0000 to 9999: 25 times as many as 400 years have.
	days = 25 * (400*365 + 97)
	end  = days * day
)

var (
	begin = time.Date(0, 1, 1, 0, 0, 0, 0, time.UTC)
	shape = regexp.MustCompile(`\A[0-9]{4}-[0-9]{2}-[0-9]{2}_[0-9]{2}:[0-9]{2}:[0-9]{2}\z`)
	clock = regexp.MustCompile(`\A([01][0-9]|2[0-3]):[0-5][0-9]:[0-5][0-9]\z`)
)

// wantGet is a date's number by other means: the library's.
func wantGet(s string) (int64, bool) {
	x, err := time.Parse(layout, s)
	if !shape.MatchString(s) || err != nil {
		return 0, false
	}
	return x.Unix() - begin.Unix(), true
}

// wantPut is a number's date by other means: the library's.
func wantPut(n int64) (string, bool) {
	if n < 0 || n >= end {
		return "", false
	}
	return time.Unix(begin.Unix()+n, 0).UTC().Format(layout), true
}

// wantClock is a clock's time's number by other means: the library's.
func wantClock(s string) (int64, bool) {
	if !clock.MatchString(s) {
		return 0, false
	}
	return wantGet("0000-01-01_" + s)
}

// check holds what a text is, as a date and as a clock's time, and that a date's number is that date's.
func check(t *testing.T, s string) {
	t.Helper()
	n, is := wantGet(s)
	if got, ok := date.Get([]byte(s)); got != n || ok != is {
		t.Errorf("P10.1: Get of %.60q: %d, %v; want %d, %v", s, got, ok, n, is)
	}
	if back, ok := date.Put(n); is && (back != s || !ok) {
		t.Errorf("P10.2: Put of %.60q: %q, %v", s, back, ok)
	}
	n, is = wantClock(s)
	if got, ok := date.Clock([]byte(s)); got != n || ok != is {
		t.Errorf("P10.1: Clock of %.60q: %d, %v; want %d, %v", s, got, ok, n, is)
	}
}

// checkPut holds a number's date, and that it leads back.
func checkPut(t *testing.T, n int64) {
	t.Helper()
	s, is := wantPut(n)
	got, ok := date.Put(n)
	if got != s || ok != is {
		t.Errorf("P10.1: Put of %d: %q, %v; want %q, %v", n, got, ok, s, is)
	}
	if back, ok := date.Get([]byte(got)); is && (back != n || !ok) {
		t.Errorf("P10.2: Get of what Put of %d answers: %d, %v", n, back, ok)
	}
}

func TestGetOfFew(t *testing.T) {
	for _, c := range []struct {
		s string
		n int64
	}{
		{"0000-01-01_00:00:00", 0},
		{"0000-01-01_00:00:01", 1},
		{"0000-01-01_00:01:00", 60},
		{"0000-01-01_01:00:00", hour},
		{"0000-01-01_23:59:59", day - 1},
		{"0000-01-02_00:00:00", day},
		{"0000-01-02_00:00:01", 86401},
		{"0000-01-31_00:00:00", 30 * day},
		{"0000-02-01_00:00:00", 31 * day},
		{"0000-02-29_00:00:00", 59 * day},
		{"0000-03-01_00:00:00", 60 * day},
		{"0000-12-31_00:00:00", 365 * day},
		{"0001-01-01_00:00:00", 366 * day},
		{"0001-03-01_00:00:00", (366 + 59) * day},
		{"0004-01-01_00:00:00", (4*365 + 1) * day},
		{"0004-02-29_00:00:00", (4*365 + 1 + 59) * day},
		{"0100-01-01_00:00:00", (100*365 + 25) * day},
		{"0100-03-01_00:00:00", (100*365 + 25 + 59) * day},
		{"0101-01-01_00:00:00", (101*365 + 25) * day},
		{"0400-01-01_00:00:00", (400*365 + 97) * day},
		{"0401-01-01_00:00:00", (401*365 + 98) * day},
		{"1970-01-01_00:00:00", 719528 * day},
		{"9999-12-31_23:59:59", end - 1},
	} {
		if got, ok := date.Get([]byte(c.s)); got != c.n || !ok {
			t.Errorf("P10.1: Get of %q: %d, %v; want %d", c.s, got, ok, c.n)
		}
		if got, ok := date.Put(c.n); got != c.s || !ok {
			t.Errorf("P10.1: Put of %d: %q, %v; want %q", c.n, got, ok, c.s)
		}
		check(t, c.s)
	}
}

func TestGetOfNone(t *testing.T) {
	for _, s := range []string{
		"", " ", "2026", "2026-01-01", "2026-01-01_", "_00:00:00", "00:00:00", "2026-01-01_00:00", "2026-01-01_00:00:0",
		"2026-01-01_00:00:000", "2026-01-01_00:00:00 ", " 2026-01-01_00:00:00", "2026-01-01_00:00:00\n", "2026-01-01_00:00:00\x00", "2026-01-01_00:00:00.0", "2026-01-01_00:00:00Z",
		"2026-01-01 00:00:00", "2026-01-01T00:00:00", "2026/01/01_00:00:00", "2026_01_01-00:00:00", "2026-01-01_00-00-00", "2026-01-01:00:00:00", "2026:01:01_00:00:00",
		"2026-1-01_00:00:00", "2026-01-1_00:00:00", "2026-1-001_00:00:00", "226-001-01_00:00:00", "02026-01-1_00:00:00", "12026-01-01_00:00:00", "202-01-01_00:00:000",
		"-026-01-01_00:00:00", "+026-01-01_00:00:00", "2026--1-01_00:00:00", "2026-01-+1_00:00:00", "2026-01-01_-0:00:00", "2026-01-01_00: 0:00", "2026- 1-01_00:00:00",
		"2026-00-01_00:00:00", "2026-13-01_00:00:00", "2026-99-01_00:00:00", "2026-01-00_00:00:00", "2026-00-00_00:00:00", "0000-00-00_00:00:00",
		"2026-01-32_00:00:00", "2026-02-29_00:00:00", "2026-02-30_00:00:00", "2026-03-32_00:00:00", "2026-04-31_00:00:00", "2026-05-32_00:00:00", "2026-06-31_00:00:00",
		"2026-07-32_00:00:00", "2026-08-32_00:00:00", "2026-09-31_00:00:00", "2026-10-32_00:00:00", "2026-11-31_00:00:00", "2026-12-32_00:00:00", "2026-12-99_00:00:00",
		"2024-02-30_00:00:00", "2023-02-29_00:00:00", "1900-02-29_00:00:00", "0100-02-29_00:00:00", "9900-02-29_00:00:00", "9999-02-29_00:00:00", "0000-02-30_00:00:00", "0001-02-29_00:00:00",
		"2026-01-01_24:00:00", "2026-01-01_00:60:00", "2026-01-01_00:00:60", "2016-12-31_23:59:60", "2026-01-01_99:99:99", "9999-12-31_24:00:00",
		"\uff12026-01-01_00:00", "2026\u201001-01_00:00", "\u0661\u0662\u0663\u0664-01-01_00:00", "2026-01-01_00:00:\xff\xff", "\xb2026-01-01_00:00:00", "yyyy-mm-dd_hh:mm:ss",
		"2026-01-01_0a:00:00", "0x26-01-01_00:00:00", "2.26-01-01_00:00:00", "1e10-01-01_00:00:00",
	} {
		if got, ok := date.Get([]byte(s)); got != 0 || ok {
			t.Errorf("P10.1: Get of %q: %d, %v; want 0, false", s, got, ok)
		}
		check(t, s)
	}
}

func TestClockOfFew(t *testing.T) {
	for _, c := range []struct {
		s string
		n int64
	}{
		{"00:00:00", 0}, {"00:00:01", 1}, {"00:00:59", 59}, {"00:01:00", 60}, {"00:59:59", hour - 1}, {"01:00:00", hour},
		{"01:02:03", 3723}, {"09:09:09", 9*hour + 9*60 + 9}, {"12:00:00", 12 * hour}, {"19:00:00", 19 * hour}, {"20:00:00", 20 * hour}, {"23:59:59", day - 1},
	} {
		if got, ok := date.Clock([]byte(c.s)); got != c.n || !ok {
			t.Errorf("P10.1: Clock of %q: %d, %v; want %d", c.s, got, ok, c.n)
		}
		check(t, c.s)
	}
	for _, s := range []string{
		"", ":", "::", "00", "00:00", "00:00:", "00:00:0", "0:00:00", "00:0:000", "000:0:00", "00:00:000", "00:00:00:00", "00:00:00\n", " 0:00:00", "00:00:00Z",
		"24:00:00", "00:60:00", "00:00:60", "23:59:60", "30:00:00", "99:99:99", "-1:00:00", "00:+1:00", "00:00: 1",
		"00-00-00", "00.00.00", "00_00:00", "00000000", "0000:000", ":0000:00", "0a:00:00", "2026-01-01_00:00:00", "_00:00:00", "0\uff10:00", "\xff0:00:00",
	} {
		if got, ok := date.Clock([]byte(s)); got != 0 || ok {
			t.Errorf("P10.1: Clock of %q: %d, %v; want 0, false", s, got, ok)
		}
		check(t, s)
	}
}

// TestClockOfEvery holds all clocks' times of whatever digits, alone and behind a day.
func TestClockOfEvery(t *testing.T) {
	count := int64(0)
	for i := range 1000000 {
		s := []byte{byte(i/100000%10) + '0', byte(i/10000%10) + '0', ':', byte(i/1000%10) + '0', byte(i/100%10) + '0', ':', byte(i/10%10) + '0', byte(i%10) + '0'}
		want, is := int64(0), i/10000 < 24 && i/100%100 < 60 && i%100 < 60
		if is {
			want, count = count, count+1
		}
		if got, ok := date.Clock(s); got != want || ok != is {
			t.Fatalf("P10.1: Clock of %q: %d, %v; want %d, %v", s, got, ok, want, is)
		}
		got, ok := date.Get(append([]byte("0000-03-01_"), s...))
		if is {
			want += 60 * day
		}
		if got != want || ok != is {
			t.Fatalf("P10.1: Get of March 1 at %q: %d, %v; want %d, %v", s, got, ok, want, is)
		}
	}
	if count != day {
		t.Fatalf("%d clocks' times were held", count)
	}
}

// TestEveryDay holds all days that have dates, one behind the other.
func TestEveryDay(t *testing.T) {
	last := ""
	for n := range int64(days) {
		at := n*day + n%day
		y, m, d := time.Unix(begin.Unix()+at, 0).UTC().Date()
		s, ok := date.Put(at)
		if !ok || len(s) != len(layout) || s <= last {
			t.Fatalf("P10.2: Put of %d: %q, %v; the day ahead: %q", at, s, ok, last)
		}
		last = s
		year, month := int(s[0]-'0')*1000+int(s[1]-'0')*100+int(s[2]-'0')*10+int(s[3]-'0'), int(s[5]-'0')*10+int(s[6]-'0')
		if of := int(s[8]-'0')*10 + int(s[9]-'0'); year != y || month != int(m) || of != d {
			t.Fatalf("P10.1: Put of %d: %q; want the day %d-%d-%d", at, s, y, m, d)
		}
		if back, ok := date.Get([]byte(s)); back != at || !ok {
			t.Fatalf("P10.2: Get of %q: %d, %v; want %d", s, back, ok, at)
		}
		if got, ok := date.Clock([]byte(s[11:])); got != n%day || !ok {
			t.Fatalf("P10.1: Clock of %q: %d, %v; want %d", s[11:], got, ok, n%day)
		}
	}
}

// TestGetOfEveryMonthAndDay holds all months and days of whatever digits, in years of each kind.
func TestGetOfEveryMonthAndDay(t *testing.T) {
	for _, y := range []int{0, 1, 3, 4, 96, 100, 104, 200, 300, 400, 1600, 1900, 1970, 2000, 2023, 2024, 2026, 2100, 9600, 9900, 9996, 9999} {
		for i := range 10000 {
			check(t, fmt.Sprintf("%04d-%02d-%02d_12:34:56", y, i/100, i%100))
		}
	}
	for y := range 10000 {
		check(t, fmt.Sprintf("%04d-02-29_00:00:00", y))
		check(t, fmt.Sprintf("%04d-02-28_23:59:59", y))
		check(t, fmt.Sprintf("%04d-12-31_23:59:59", y))
		check(t, fmt.Sprintf("%04d-01-01_00:00:00", y))
	}
}

// TestGetOfEveryByte holds each byte at each place of texts, put there and put between, and texts that are cut.
func TestGetOfEveryByte(t *testing.T) {
	for _, s := range []string{"0000-01-01_00:00:00", "2024-02-29_23:59:59", "1999-11-10_19:08:07", "9999-12-31_20:50:30", "00:00:00", "23:59:59", "19:28:37"} {
		for i := range len(s) {
			check(t, s[:i])
			check(t, s[i:])
			check(t, s[:i]+s[i+1:])
			for k := range len(s) {
				// Two signs that have changed their places.
				b := []byte(s)
				b[i], b[k] = b[k], b[i]
				check(t, string(b))
			}
			for c := range 256 {
				check(t, s[:i]+string([]byte{byte(c)})+s[i+1:])
				check(t, s[:i]+string([]byte{byte(c)})+s[i:])
			}
		}
		for c := range 256 {
			check(t, s+string([]byte{byte(c)}))
		}
		check(t, s+s)
		check(t, strings.Repeat(s, 1<<16))
	}
	for _, c := range []string{"0", "-", ":", "_", "\x00", "\xff"} {
		for n := range 64 {
			check(t, strings.Repeat(c, n))
		}
		check(t, strings.Repeat(c, 1<<20))
	}
}

// TestPut holds numbers at which something ends, and those beyond.
func TestPut(t *testing.T) {
	for _, at := range []int64{0, 59 * day, 60 * day, 365 * day, 366 * day, days / 25 * day, 719528 * day, math.MaxInt32, math.MaxUint32, end - 366*day, end - 365*day, end - day, end, 2 * end, math.MaxInt64 - 1<<20} {
		for c := int64(-3 * day); c <= 3*day; c += 997 {
			checkPut(t, at+c)
		}
		for c := int64(-70); c <= 70; c++ {
			checkPut(t, at+c)
			checkPut(t, c-at)
		}
	}
	for n := range 64 {
		for c := int64(-2); c <= 2; c++ {
			// They wrap round, and so are among the highest and the lowest.
			checkPut(t, 1<<n+c)
			checkPut(t, -(1<<n + c))
		}
	}
	for _, n := range []int64{-1, -day, -day + 1, -day - 1, end, end + 1, end + day, -end, math.MinInt64, math.MinInt64 + 1, math.MaxInt64, math.MaxInt64 - 1} {
		if got, ok := date.Put(n); got != "" || ok {
			t.Errorf("P10.1: Put of %d: %q, %v; want no text, false", n, got, ok)
		}
	}
	if got, ok := date.Put(end - 1); got != "9999-12-31_23:59:59" || !ok {
		t.Errorf("P10.1: Put of the last: %q, %v", got, ok)
	}
}

// someNumbers are random ones that have dates, the same each time.
func someNumbers(count int) []int64 {
	source := rand.New(rand.NewSource(10))
	var l []int64
	for range count {
		l = append(l, source.Int63n(end))
	}
	return l
}

func TestSome(t *testing.T) {
	for _, n := range someNumbers(50000) {
		checkPut(t, n)
		s, _ := wantPut(n)
		check(t, s)
		check(t, s[11:])
	}
	source := rand.New(rand.NewSource(100))
	for range 100000 {
		checkPut(t, int64(source.Uint64()))
		// Digits of any kind, most of which are no date's.
		s := []byte("0000-00-00_00:00:00")
		for i, c := range s {
			if c == '0' {
				s[i] = "0123456789"[source.Intn(10)]
			}
		}
		s[5], s[8], s[11], s[14], s[17] = '0'+s[5]%2, '0'+s[8]%4, '0'+s[11]%3, '0'+s[14]%7, '0'+s[17]%7
		check(t, string(s))
	}
}

// TestOrder holds that dates stand to each other as their texts do.
func TestOrder(t *testing.T) {
	l := someNumbers(300)
	for _, n := range []int64{0, 1, 59, 60, hour, day, 31 * day, 365 * day, 366 * day, 719528 * day, end - 1} {
		l = append(l, n, max(n-1, 0), min(n+1, end-1))
	}
	for _, n := range l {
		a, _ := wantPut(n)
		x, isDate := date.Get([]byte(a))
		for _, m := range l {
			b, _ := wantPut(m)
			y, ok := date.Get([]byte(b))
			if !ok || !isDate || (x < y) != (a < b) || (x == y) != (a == b) {
				t.Errorf("P10.2: %q and %q stand as %d and %d", a, b, x, y)
			}
		}
	}
}

func TestArguments(t *testing.T) {
	const all = "2026-11-20_07:47:002024-02-29_23:59:59-01-01"
	for n := range len(all) + 1 {
		for at := range n + 1 {
			whole := []byte(all)
			x, ok := date.Get(whole[at:n])
			y, is := date.Clock(whole[at:n])
			if string(whole) != all {
				t.Errorf("P0.3: Get or Clock of %q changes it, or what stands about it: %q", all[at:n], whole)
			}
			clear(whole)
			some := bytes.Clone([]byte(all[at:n]))
			if again, stays := date.Get(some); again != x || stays != ok {
				t.Errorf("P0.3: what Get of %q is handed is kept", all[at:n])
			}
			if again, stays := date.Clock(some); again != y || stays != is {
				t.Errorf("P0.3: what Clock of %q is handed is kept", all[at:n])
			}
			check(t, all[at:n])
		}
	}
}

func TestNilIsEmpty(t *testing.T) {
	for _, b := range [][]byte{nil, {}} {
		if n, ok := date.Get(b); n != 0 || ok {
			t.Errorf("P0.4: Get of no bytes: %d, %v", n, ok)
		}
		if n, ok := date.Clock(b); n != 0 || ok {
			t.Errorf("P0.4: Clock of no bytes: %d, %v", n, ok)
		}
	}
}

func TestAgain(t *testing.T) {
	ask := func() (out []string) {
		for _, n := range append(someNumbers(50), -1, 0, end-1, end, math.MinInt64, math.MaxInt64) {
			s, ok := date.Put(n)
			x, is := date.Get([]byte(s))
			y, has := date.Clock([]byte(s[len(s)*11/19:]))
			out = append(out, fmt.Sprint(s, ok, x, is, y, has))
		}
		return out
	}
	first := ask()
	for range 3 {
		if !slices.Equal(ask(), first) {
			t.Fatal("P0.5: the same calls answer otherwise")
		}
	}
}
