package order_test

import (
	"bytes"
	"fmt"
	"math"
	"math/big"
	"math/rand"
	"reflect"
	"regexp"
	"slices"
	"strings"
	"testing"
	"time"

	"greffier/api"
	"greffier/order"
)

// orders are those that there are.
var orders = []uint8{api.Alpha, api.Numeric, api.Clock, api.Binary, api.Date}

var shape = regexp.MustCompile(`\A-?[0-9]+(\.[0-9]+)?\z`)

// numberOf is a numeric value by other means: a fraction of big numbers, beyond which the infinities stand.
func numberOf(s string) (*big.Rat, bool) {
	beyond := new(big.Rat).SetInt64(1e16)
	switch s {
	case "inf":
		return beyond, true
	case "-inf":
		return beyond.Neg(beyond), true
	}
	signs := strings.NewReplacer("-", "", ".", "").Replace(s)
	if !shape.MatchString(s) || len(signs) > api.MaxDigits {
		return nil, false
	}
	return new(big.Rat).SetString(s)
}

// timeOf is a date's or a clock's time by the library.
func timeOf(s, layout string) (*big.Rat, bool) {
	x, err := time.Parse(layout, s)
	if err != nil || x.Format(layout) != s {
		return nil, false
	}
	return new(big.Rat).SetInt64(x.Unix()), true
}

// placeOf is where bytes stand in an order that numbers tell.
func placeOf(o uint8, s string) (*big.Rat, bool) {
	switch o {
	case api.Numeric:
		return numberOf(s)
	case api.Clock:
		return timeOf(s, "15:04:05")
	case api.Date:
		return timeOf(s, "2006-01-02_15:04:05")
	case api.Binary:
		return new(big.Rat).SetInt(new(big.Int).SetBytes([]byte(s))), true
	}
	return nil, false
}

// wantCompare is how bytes stand by other means.
func wantCompare(o uint8, a, b string) (int, bool) {
	if o == api.Alpha {
		return strings.Compare(a, b), true
	}
	x, first := placeOf(o, a)
	y, second := placeOf(o, b)
	if !first || !second {
		return 0, false
	}
	return x.Cmp(y), true
}

// checkCompare holds how two texts stand, and whether they are values.
func checkCompare(t *testing.T, o uint8, a, b string) {
	t.Helper()
	c, is := wantCompare(o, a, b)
	if got, ok := order.Compare(o, []byte(a), []byte(b)); got != c || ok != is {
		t.Errorf("P11.1: Compare of %d, %.60q and %.60q: %d, %v; want %d, %v", o, a, b, got, ok, c, is)
	}
	_, is = wantCompare(o, a, a)
	if ok := order.Is(o, []byte(a)); ok != is {
		t.Errorf("P11.1: Is of %d and %.60q: %v; want %v", o, a, ok, is)
	}
}

// texts are values of some orders or of none.
func texts() []string {
	return []string{
		"", "a", "b", "A", "ab", "abc", "a\x00", "B", "\xff", "\xfe\xff", "\xc3\xa9", "e\u0301", "\x80", "\x7f", " ", "x",
		"\x00", "\x00\x00", "\x05", "\x00\x05", "\x00\x00\x05", "\x05\x00", "\x01\x00", "\x01\x00\x00", "\x00\x01\x00", "\xff\xff", "\x00\xff", "\x01\xff", "\x02\x00\x00",
		"0", "-0", "0.0", "-0.00", "00", "1", "1.0", "01", "-1", "5", "-5", "9", "10", "9.5", "10.0", "2", "2.50", "-2.5", "100", "0.1", "0.10", "0.3",
		"inf", "-inf", "nan", "-nan", "NaN", "Inf", "+inf", "infinity", "+1", "1.", ".5", "1e5", "0x1", " 1", "1 ", "1_0",
		"999999999999999", "-999999999999999", "1000000000000000", "-1000000000000000", "0.00000000000001", "0.000000000000000", "99999999999999.9",
		"00:00:00", "00:00:01", "00:01:00", "01:00:00", "00:59:59", "23:59:59", "24:00:00", "12:60:00", "12:00:60", "1:00:00", "12:00", "12-00-00", "12:00:00 ", "12:00:00.5",
		"0000-01-01_00:00:00", "0000-02-29_12:00:00", "0001-01-01_00:00:00", "1969-12-31_23:59:59", "1970-01-01_00:00:00", "2025-12-31_23:59:59", "2026-01-01_00:00:00", "2026-01-01_00:00:01", "2026-01-02_00:00:00", "2024-02-29_00:00:00", "2023-02-29_00:00:00", "2026-13-01_00:00:00", "2026-00-01_00:00:00", "2026-01-01 00:00:00", "2026-01-01T00:00:00", "2026-01-01", "9999-12-31_23:59:59", "10000-01-01_00:00:00",
	}
}

func TestCompareOfFew(t *testing.T) {
	for _, x := range []struct {
		o    uint8
		a, b string
		c    int
		ok   bool
	}{
		{api.Alpha, "a", "b", -1, true}, {api.Alpha, "b", "a", 1, true}, {api.Alpha, "a", "a", 0, true}, {api.Alpha, "", "", 0, true}, {api.Alpha, "", "\x00", -1, true},
		{api.Alpha, "a", "ab", -1, true}, {api.Alpha, "b", "ab", 1, true}, {api.Alpha, "10", "9", -1, true}, {api.Alpha, "B", "a", -1, true}, {api.Alpha, "\x7f", "\x80", -1, true}, {api.Alpha, "\xff", "a", 1, true}, {api.Alpha, "\x00\x05", "\x05", -1, true}, {api.Alpha, "1", "1.0", -1, true},
		{api.Numeric, "10", "9", 1, true}, {api.Numeric, "-0", "0.0", 0, true}, {api.Numeric, "0.0", "-0", 0, true}, {api.Numeric, "1", "1.0", 0, true}, {api.Numeric, "007", "7", 0, true}, {api.Numeric, "-5", "-10", 1, true}, {api.Numeric, "0.3", "0.30", 0, true}, {api.Numeric, "2.5", "-2.5", 1, true},
		{api.Numeric, "inf", "999999999999999", 1, true}, {api.Numeric, "-inf", "-999999999999999", -1, true}, {api.Numeric, "inf", "inf", 0, true}, {api.Numeric, "-inf", "-inf", 0, true}, {api.Numeric, "-inf", "inf", -1, true},
		{api.Numeric, "nan", "1", 0, false}, {api.Numeric, "1", "nan", 0, false}, {api.Numeric, "nan", "nan", 0, false}, {api.Numeric, "nan", "inf", 0, false}, {api.Numeric, "", "1", 0, false}, {api.Numeric, "2", "x", 0, false}, {api.Numeric, "x", "2", 0, false},
		{api.Clock, "01:00:00", "00:59:59", 1, true}, {api.Clock, "23:59:59", "23:59:59", 0, true}, {api.Clock, "00:00:00", "00:00:01", -1, true}, {api.Clock, "24:00:00", "00:00:00", 0, false}, {api.Clock, "00:00:00", "24:00:00", 0, false}, {api.Clock, "2026-01-01_00:00:00", "00:00:00", 0, false},
		{api.Binary, "\x00\x05", "\x05", 0, true}, {api.Binary, "", "\x00\x00", 0, true}, {api.Binary, "\x01\x00", "\xff", 1, true}, {api.Binary, "\xff", "\x01\x00", -1, true}, {api.Binary, "\x00\xff", "\x01\x00", -1, true}, {api.Binary, "", "\x01", -1, true}, {api.Binary, "\x05\x00", "\x05", 1, true}, {api.Binary, "\x80", "\x7f", 1, true}, {api.Binary, "nan", "nan", 0, true},
		{api.Date, "2026-01-01_00:00:00", "2025-12-31_23:59:59", 1, true}, {api.Date, "2024-02-29_00:00:00", "2024-03-01_00:00:00", -1, true}, {api.Date, "0000-01-01_00:00:00", "0000-01-01_00:00:00", 0, true}, {api.Date, "x", "x", 0, false}, {api.Date, "2023-02-29_00:00:00", "2024-02-29_00:00:00", 0, false}, {api.Date, "2024-02-29_00:00:00", "2023-02-29_00:00:00", 0, false}, {api.Date, "00:00:00", "00:00:00", 0, false},
		{0, "a", "a", 0, false}, {6, "1", "2", 0, false}, {9, "a", "a", 0, false}, {255, "", "", 0, false},
	} {
		if c, ok := order.Compare(x.o, []byte(x.a), []byte(x.b)); c != x.c || ok != x.ok {
			t.Errorf("P11.1: Compare of %d, %q and %q: %d, %v; want %d, %v", x.o, x.a, x.b, c, ok, x.c, x.ok)
		}
		checkCompare(t, x.o, x.a, x.b)
	}
}

// TestCompareOfEveryTwo holds all texts against each other, in orders that there are and in those that there aren't.
func TestCompareOfEveryTwo(t *testing.T) {
	l := texts()
	for o := range 256 {
		for _, a := range l {
			if o > 8 && o < 254 {
				checkCompare(t, uint8(o), a, a)
				continue
			}
			for _, b := range l {
				checkCompare(t, uint8(o), a, b)
			}
		}
	}
}

// TestCompareOfEveryByte holds that bytes stand without a sign, and noughts ahead count in texts alone.
func TestCompareOfEveryByte(t *testing.T) {
	for i := range 256 {
		for k := range 256 {
			a, b := string([]byte{byte(i)}), string([]byte{byte(k)})
			for _, o := range []uint8{api.Alpha, api.Binary} {
				checkCompare(t, o, a, b)
				checkCompare(t, o, "\x00\x00"+a, b)
				checkCompare(t, o, a+"\x00", b+"\xff")
				checkCompare(t, o, "\x01"+a, b)
				checkCompare(t, o, a+b, b+a)
			}
		}
	}
}

// someText is a random one for an order, at times none of its values.
func someText(o uint8, source *rand.Rand) string {
	switch o {
	case api.Numeric:
		return strings.Repeat("-", source.Intn(2)) + fmt.Sprintf("%d.%0*d", source.Intn(20), 1+source.Intn(2), source.Intn(10))
	case api.Clock:
		return fmt.Sprintf("%02d:%02d:%02d", source.Intn(25), source.Intn(61), source.Intn(61))
	case api.Date:
		return fmt.Sprintf("%04d-%02d-%02d_%02d:%02d:%02d", source.Intn(10000), source.Intn(14), source.Intn(32), source.Intn(24), source.Intn(60), source.Intn(60))
	}
	b := make([]byte, source.Intn(6))
	for i := range b {
		b[i] = []byte{0, 0, 1, 'a', 0x80, 0xff}[source.Intn(6)]
	}
	return string(b)
}

func TestCompareOfSome(t *testing.T) {
	source := rand.New(rand.NewSource(11))
	for _, o := range orders {
		for range 20000 {
			checkCompare(t, o, someText(o, source), someText(o, source))
		}
	}
}

func TestCompareOfLong(t *testing.T) {
	const many = 1 << 16
	for _, c := range []string{"\x00", "\xff", "a", "0", "9", "1:", "-"} {
		s := strings.Repeat(c, many)
		for _, o := range []uint8{api.Alpha, api.Numeric, api.Clock, api.Date, 0} {
			for _, b := range []string{s, s + "\x00", "\x00" + s, "1", ""} {
				checkCompare(t, o, s, b)
				checkCompare(t, o, b, s)
			}
		}
		for _, b := range []string{s, "\x00" + s, "\x01", ""} {
			checkCompare(t, api.Binary, s, b)
			checkCompare(t, api.Binary, b, s)
		}
	}
}

// at is an end that is there.
func at(s string, open bool) api.Bound { return api.Bound{Is: true, Open: open, At: []byte(s)} }

// numeric is a range of numbers.
func numeric(lo, hi api.Bound) api.Range { return api.Range{Order: api.Numeric, Lo: lo, Hi: hi} }

var none api.Bound

// holdEnd tells whether a value stands so to an end that a range with no other end has it: above it where side is 1, below it where side is -1.
func holdEnd(o uint8, side int, e api.Bound, s string) bool {
	if !e.Is {
		return true
	}
	c, _ := wantCompare(o, s, string(e.At))
	return c*side > 0 || c == 0 && !e.Open
}

// wantIn tells whether a range that may be has bytes, end by end.
func wantIn(r api.Range, s string) bool {
	_, is := wantCompare(r.Order, s, s)
	return is && holdEnd(r.Order, 1, r.Lo, s) && holdEnd(r.Order, -1, r.Hi, s)
}

// wantEnd is the one of two ends that a meeting has, as the words say it; side is 1 of lower ends, -1 of higher ones.
func wantEnd(o uint8, side int, a, b api.Bound) api.Bound {
	if !a.Is || !b.Is {
		if a.Is {
			return a
		}
		return b
	}
	c, _ := wantCompare(o, string(a.At), string(b.At))
	if c*side > 0 {
		return a
	}
	if c*side < 0 || b.Open && !a.Open {
		return b
	}
	return a
}

// wantEmpty tells whether a range that may be is empty.
func wantEmpty(r api.Range) bool {
	if !r.Lo.Is || !r.Hi.Is {
		return false
	}
	c, _ := wantCompare(r.Order, string(r.Lo.At), string(r.Hi.At))
	return c > 0 || c == 0 && (r.Lo.Open || r.Hi.Open)
}

// wantWithin tells whether a range that may be is within another one: empty, or their meeting's ends stand as its own do.
func wantWithin(a, b api.Range) bool {
	return wantEmpty(a) || sameEnd(a.Order, wantEnd(a.Order, 1, a.Lo, b.Lo), a.Lo) && sameEnd(a.Order, wantEnd(a.Order, -1, a.Hi, b.Hi), a.Hi)
}

// sameEnd tells whether two ends stand the same.
func sameEnd(o uint8, a, b api.Bound) bool {
	if !a.Is || !b.Is {
		return a.Is == b.Is
	}
	c, _ := wantCompare(o, string(a.At), string(b.At))
	return c == 0 && a.Open == b.Open
}

// sameRange tells whether two ranges are the same, field by field; no bytes are the same as nil ones.
func sameRange(a, b api.Range) bool {
	same := func(a, b api.Bound) bool { return a.Is == b.Is && a.Open == b.Open && bytes.Equal(a.At, b.At) }
	return a.Order == b.Order && same(a.Lo, b.Lo) && same(a.Hi, b.Hi)
}

// text is a range for people.
func text(r api.Range) string {
	end := func(e api.Bound, open, closed string) string {
		if !e.Is {
			return fmt.Sprintf("none%v%q", e.Open, e.At)
		}
		if e.Open {
			return fmt.Sprintf("%s%q", open, e.At)
		}
		return fmt.Sprintf("%s%q", closed, e.At)
	}
	return fmt.Sprintf("%d %s, %s", r.Order, end(r.Lo, "above ", "from "), end(r.Hi, "below ", "up to "))
}

// valuesOf are an order's, from low to high, with two texts of some that stand the same.
func valuesOf(o uint8) []string {
	switch o {
	case api.Alpha:
		return []string{"", "10", "9", "a", "ab"}
	case api.Numeric:
		return []string{"-inf", "-2", "-0", "0.0", "9.5", "10", "inf"}
	case api.Clock:
		return []string{"00:00:00", "00:59:59", "01:00:00", "23:59:59"}
	case api.Binary:
		return []string{"", "\x00", "\x05", "\x00\x05", "\xff", "\x01\x00"}
	}
	return []string{"0000-01-01_00:00:00", "2025-12-31_23:59:59", "2026-01-01_00:00:00", "9999-12-31_23:59:59"}
}

// rangesOf are all of an order with ends of its values, or none.
func rangesOf(o uint8) []api.Range {
	ends := []api.Bound{none}
	for _, s := range valuesOf(o) {
		ends = append(ends, at(s, false), at(s, true))
	}
	var l []api.Range
	for _, lo := range ends {
		for _, hi := range ends {
			l = append(l, api.Range{Order: o, Lo: lo, Hi: hi})
		}
	}
	return l
}

func TestRanges(t *testing.T) {
	for _, o := range orders {
		for _, r := range rangesOf(o) {
			if !order.May(r) {
				t.Errorf("P11.1: %s may not be", text(r))
			}
			if got := order.Empty(r); got != wantEmpty(r) {
				t.Errorf("P11.1: Empty of %s: %v", text(r), got)
			}
			for _, s := range append(texts(), valuesOf(o)...) {
				in := order.In(r, []byte(s))
				if in != wantIn(r, s) {
					t.Errorf("P11.1: In of %s and %q: %v", text(r), s, in)
				}
				if in && order.Empty(r) {
					t.Errorf("P11.2: %q is in %s, which is empty", s, text(r))
				}
			}
		}
	}
}

// checkTwo holds two ranges that may be against each other.
func checkTwo(t *testing.T, a, b api.Range, values []string) {
	t.Helper()
	want := api.Range{Order: a.Order, Lo: wantEnd(a.Order, 1, a.Lo, b.Lo), Hi: wantEnd(a.Order, -1, a.Hi, b.Hi)}
	m, ok := order.Meet(a, b)
	if !ok || !sameRange(m, want) {
		t.Errorf("P11.1: Meet of %s and %s: %s, %v; want %s", text(a), text(b), text(m), ok, text(want))
	}
	within := order.Within(a, b)
	if within != wantWithin(a, b) {
		t.Errorf("P11.1: Within of %s and %s: %v", text(a), text(b), within)
	}
	if !order.May(m) || !order.Within(m, a) || !order.Within(m, b) {
		t.Errorf("P11.2: the meeting of %s and %s isn't within both: %s", text(a), text(b), text(m))
	}
	for _, s := range values {
		first, second, both := order.In(a, []byte(s)), order.In(b, []byte(s)), order.In(m, []byte(s))
		if both != (first && second) {
			t.Errorf("P11.2: %q is in %s: %v, in %s: %v, in their meeting: %v", s, text(a), first, text(b), second, both)
		}
		if within && first && !second {
			t.Errorf("P11.2: %q is in %s, not in %s", s, text(a), text(b))
		}
	}
}

func TestTwoRanges(t *testing.T) {
	for _, o := range orders {
		values := append(valuesOf(o), "nan", "x", "b", "\xff", "1", "9", "-5", "0.1", "12:00:00", "2024-02-29_00:00:00", "2030-01-01_00:00:00")
		for _, a := range rangesOf(o) {
			for _, b := range rangesOf(o) {
				checkTwo(t, a, b, values)
			}
		}
	}
}

func TestTwoRangesOfSome(t *testing.T) {
	source := rand.New(rand.NewSource(110))
	value := func(o uint8) string {
		for {
			s := someText(o, source)
			if _, is := wantCompare(o, s, s); is {
				return s
			}
		}
	}
	end := func(o uint8) api.Bound {
		if source.Intn(5) == 0 {
			return none
		}
		return at(value(o), source.Intn(2) == 0)
	}
	for _, o := range orders {
		for range 3000 {
			a := api.Range{Order: o, Lo: end(o), Hi: end(o)}
			b := api.Range{Order: o, Lo: end(o), Hi: end(o)}
			values := []string{value(o), value(o), value(o)}
			for _, e := range []api.Bound{a.Lo, a.Hi, b.Lo, b.Hi} {
				values = append(values, string(e.At))
			}
			checkTwo(t, a, b, values)
			checkTwo(t, a, a, values)
			if order.Empty(a) != wantEmpty(a) {
				t.Errorf("P11.1: Empty of %s: %v", text(a), !wantEmpty(a))
			}
			for _, s := range values {
				if order.In(a, []byte(s)) != wantIn(a, s) {
					t.Errorf("P11.1: In of %s and %q: %v", text(a), s, !wantIn(a, s))
				}
			}
		}
	}
}

func TestInOfFew(t *testing.T) {
	r := numeric(at("2", false), at("10", true))
	for s, in := range map[string]bool{"2": true, "2.0": true, "9.5": true, "10": false, "10.0": false, "1.99": false, "9.99999999999999": true, "-5": false, "inf": false, "-inf": false, "nan": false, "x": false, "": false, "3 ": false} {
		if order.In(r, []byte(s)) != in {
			t.Errorf("P11.1: In of %s and %q: %v", text(r), s, !in)
		}
	}
	r = numeric(at("2", false), none)
	for s, in := range map[string]bool{"2.0": true, "inf": true, "nan": false, "1": false, "-inf": false} {
		if order.In(r, []byte(s)) != in {
			t.Errorf("P11.1: In of %s and %q: %v", text(r), s, !in)
		}
	}
	if order.In(api.Range{Order: api.Numeric}, []byte("nan")) || order.In(api.Range{Order: api.Clock}, []byte("24:00:00")) {
		t.Error("P11.1: what is no value is in a range without ends")
	}
	if !order.In(api.Range{Order: api.Alpha}, nil) || !order.In(api.Range{Order: api.Binary}, nil) || !order.In(numeric(at("inf", false), at("inf", false)), []byte("inf")) {
		t.Error("P11.1: a value isn't in a range that has it")
	}
}

// TestMeetOfSameEnds holds that of ends that stand the same the open one stays, else the first one's.
func TestMeetOfSameEnds(t *testing.T) {
	for _, c := range []struct{ a, b, want api.Bound }{
		{at("1", false), at("1.0", false), at("1", false)},
		{at("1", true), at("1.0", true), at("1", true)},
		{at("1", false), at("1.0", true), at("1.0", true)},
		{at("1", true), at("1.0", false), at("1", true)},
		{at("-0", false), at("0", false), at("-0", false)},
		{at("0", true), at("-0", true), at("0", true)},
	} {
		for _, r := range [][3]api.Range{{numeric(c.a, none), numeric(c.b, none), numeric(c.want, none)}, {numeric(none, c.a), numeric(none, c.b), numeric(none, c.want)}, {numeric(c.a, c.a), numeric(c.b, c.b), numeric(c.want, c.want)}} {
			if m, ok := order.Meet(r[0], r[1]); !ok || !sameRange(m, r[2]) {
				t.Errorf("P11.1: Meet of %s and %s: %s, %v; want %s", text(r[0]), text(r[1]), text(m), ok, text(r[2]))
			}
		}
	}
}

// TestMeetOfFar holds that ranges that are far from each other meet, too, in one that is empty.
func TestMeetOfFar(t *testing.T) {
	m, ok := order.Meet(numeric(none, at("1", false)), numeric(at("2", true), none))
	if !ok || !sameRange(m, numeric(at("2", true), at("1", false))) || !order.Empty(m) || !order.Within(m, numeric(at("7", false), at("7", false))) {
		t.Errorf("P11.1: Meet of ranges that are far from each other: %s, %v", text(m), ok)
	}
	if m, ok := order.Meet(numeric(none, none), numeric(none, none)); !ok || !sameRange(m, numeric(none, none)) {
		t.Errorf("P11.1: Meet of ranges without ends: %s, %v", text(m), ok)
	}
}

func TestEmptyOfFew(t *testing.T) {
	for _, c := range []struct {
		lo, hi api.Bound
		is     bool
	}{
		{none, none, false}, {at("1", true), none, false}, {none, at("1", true), false},
		{at("inf", true), none, false}, {none, at("-inf", true), false},
		{at("1", false), at("1.0", false), false}, {at("1", true), at("1.0", false), true}, {at("1", false), at("1.0", true), true}, {at("1", true), at("1.0", true), true},
		{at("2", false), at("1", false), true}, {at("1", true), at("1.00000000000001", true), false}, {at("0", false), at("-0", true), true}, {at("0", false), at("-0", false), false},
	} {
		if r := numeric(c.lo, c.hi); order.Empty(r) != c.is {
			t.Errorf("P11.1: Empty of %s: %v", text(r), !c.is)
		}
	}
}

func TestWithinOfFew(t *testing.T) {
	all := numeric(none, none)
	for _, c := range []struct {
		a, b api.Range
		is   bool
	}{
		{all, all, true},
		{numeric(at("1", false), none), all, true},
		{all, numeric(at("1", false), none), false},
		{all, numeric(none, at("1", false)), false},
		{numeric(none, at("1", true)), numeric(none, at("1", false)), true},
		{numeric(none, at("1", false)), numeric(none, at("1", true)), false},
		{numeric(at("1", true), none), numeric(at("1.0", false), none), true},
		{numeric(at("1", false), none), numeric(at("1.0", true), none), false},
		{numeric(at("1", true), at("2", true)), numeric(at("1.0", true), at("2.0", true)), true},
		{numeric(at("3", false), at("4", false)), numeric(at("1", false), at("5", false)), true},
		{numeric(at("3", false), at("6", false)), numeric(at("1", false), at("5", false)), false},
		{numeric(at("0", false), at("4", false)), numeric(at("1", false), at("5", false)), false},
		// One that is empty is within any, within another empty one, too; one that isn't is in no empty one.
		{numeric(at("9", false), at("8", false)), numeric(at("1", false), at("2", false)), true},
		{numeric(at("9", false), at("8", false)), numeric(at("2", false), at("1", false)), true},
		{numeric(at("1", true), at("1", true)), numeric(at("5", false), none), true},
		{numeric(at("1", false), at("1", false)), numeric(at("1", true), at("1", true)), false},
		// An end that isn't there stands beyond those that are, though no value may stand between.
		{all, numeric(at("-inf", false), at("inf", false)), false},
		{numeric(at("-inf", false), at("inf", false)), all, true},
	} {
		if order.Within(c.a, c.b) != c.is {
			t.Errorf("P11.1: Within of %s and %s: %v", text(c.a), text(c.b), !c.is)
		}
	}
}

// wrongRanges may not be.
func wrongRanges() []api.Range {
	hidden := []api.Bound{{Open: true}, {At: []byte("1")}, {Open: true, At: []byte("1")}, {At: []byte{0}}}
	var l []api.Range
	for _, o := range []uint8{0, 6, 7, 9, 128, 255} {
		l = append(l, api.Range{Order: o}, api.Range{Order: o, Lo: at("1", false)}, api.Range{Order: o, Hi: at("", true)}, api.Range{Order: o, Lo: at("2", false), Hi: at("1", false)})
	}
	for _, o := range orders {
		for _, e := range hidden {
			l = append(l, api.Range{Order: o, Lo: e}, api.Range{Order: o, Hi: e}, api.Range{Order: o, Lo: at(valuesOf(o)[1], false), Hi: e}, api.Range{Order: o, Lo: e, Hi: at(valuesOf(o)[1], false)})
		}
		for _, s := range texts() {
			if _, is := wantCompare(o, s, s); !is {
				l = append(l, api.Range{Order: o, Lo: at(s, false)}, api.Range{Order: o, Hi: at(s, true)}, api.Range{Order: o, Lo: at(valuesOf(o)[1], false), Hi: at(s, false)}, api.Range{Order: o, Lo: at(s, false), Hi: at(valuesOf(o)[0], true)})
			}
		}
	}
	for _, o := range []uint8{api.Numeric, api.Clock, api.Date} {
		l = append(l, api.Range{Order: o, Lo: api.Bound{Is: true}}, api.Range{Order: o, Hi: api.Bound{Is: true, At: []byte{}}})
	}
	return l
}

func TestWrongRanges(t *testing.T) {
	check := func(what string, a, b api.Range) {
		if m, ok := order.Meet(a, b); ok || !reflect.DeepEqual(m, api.Range{}) {
			t.Errorf("P11.1, P0.2: Meet of %s: %s and %s: %s, %v", what, text(a), text(b), text(m), ok)
		}
		if order.Within(a, b) {
			t.Errorf("P11.1: Within of %s: %s and %s", what, text(a), text(b))
		}
	}
	for _, r := range wrongRanges() {
		if order.May(r) || order.Empty(r) {
			t.Errorf("P11.1: May of %s: %v, Empty: %v", text(r), order.May(r), order.Empty(r))
		}
		for _, s := range append(texts(), "5") {
			if order.In(r, []byte(s)) {
				t.Errorf("P11.1: %q is in %s, which may not be", s, text(r))
			}
		}
		check("a wrong one, twice", r, r)
		for _, o := range orders {
			empty := api.Range{Order: o, Lo: at(valuesOf(o)[0], true), Hi: at(valuesOf(o)[0], true)}
			for _, other := range []api.Range{{Order: o}, empty} {
				check("a wrong one and another", r, other)
				check("another and a wrong one", other, r)
			}
		}
	}
}

func TestTwoOrders(t *testing.T) {
	for _, o := range orders {
		for _, p := range orders {
			if o == p {
				continue
			}
			for _, a := range rangesOf(o)[:12] {
				for _, b := range rangesOf(p)[:12] {
					if m, ok := order.Meet(a, b); ok || !reflect.DeepEqual(m, api.Range{}) {
						t.Errorf("P11.1, P0.2: Meet of two orders, %s and %s: %s, %v", text(a), text(b), text(m), ok)
					}
					if order.Within(a, b) {
						t.Errorf("P11.1: Within of two orders, %s and %s", text(a), text(b))
					}
				}
			}
			v := valuesOf(o)[0]
			empty := api.Range{Order: o, Lo: at(v, true), Hi: at(v, true)}
			if !order.Empty(empty) || order.Within(empty, api.Range{Order: p}) {
				t.Errorf("P11.1: an empty range of order %d is within one of order %d", o, p)
			}
		}
	}
}

// TestAnyBytes holds that each call ends, whatever bytes and orders there are.
func TestAnyBytes(t *testing.T) {
	source := rand.New(rand.NewSource(1100))
	some := func() []byte {
		b := make([]byte, source.Intn(25))
		source.Read(b)
		return b
	}
	end := func() api.Bound {
		return api.Bound{Is: source.Intn(2) == 0, Open: source.Intn(2) == 0, At: some()}
	}
	for range 50000 {
		a := api.Range{Order: uint8(source.Intn(7)), Lo: end(), Hi: end()}
		b := api.Range{Order: uint8(source.Intn(7)), Lo: end(), Hi: end()}
		m, ok := order.Meet(a, b)
		if want := a.Order == b.Order && order.May(a) && order.May(b); ok != want || ok != order.May(m) {
			t.Errorf("P11.1: Meet of %s and %s: %s, %v", text(a), text(b), text(m), ok)
		}
		if order.Within(a, b) && !ok || order.Empty(a) && !order.May(a) {
			t.Errorf("P11.1: Within or Empty of %s and %s", text(a), text(b))
		}
		s := some()
		if order.In(a, s) && !order.May(a) {
			t.Errorf("P11.1: %q is in %s, which may not be", s, text(a))
		}
		checkCompare(t, a.Order, string(s), string(a.Lo.At))
	}
}

// roomy are bytes with room behind them, that is told from other room.
func roomy(s string) []byte {
	b := append(make([]byte, 0, len(s)+8), s...)
	copy(b[:cap(b)][len(s):], "behind..")
	return b
}

func TestArguments(t *testing.T) {
	for _, o := range orders {
		l := valuesOf(o)
		for _, s := range l {
			for _, u := range append(slices.Clone(l), "none") {
				a := api.Range{Order: o, Lo: api.Bound{Is: true, At: roomy(s)}, Hi: api.Bound{Is: true, At: roomy(l[len(l)-1])}}
				b := api.Range{Order: o, Lo: api.Bound{Is: true, Open: true, At: roomy(u)}, Hi: api.Bound{Is: true, At: roomy(u)}}
				value := roomy(u)
				order.Compare(o, value, a.Lo.At)
				order.Compare(o, a.Lo.At, value)
				order.Is(o, value)
				order.In(a, value)
				order.Within(a, b)
				order.Empty(b)
				order.May(b)
				m, _ := order.Meet(a, b)
				for i, c := range [][]byte{a.Lo.At, a.Hi.At, b.Lo.At, b.Hi.At, value} {
					if string(c[:cap(c)]) != string(roomy([]string{s, l[len(l)-1], u, u, u}[i])[:cap(c)]) {
						t.Errorf("P0.3: an argument of order %d was changed, or what stands behind it: %q", o, c[:cap(c)])
					}
				}
				before := text(m)
				for _, c := range [][]byte{a.Lo.At, a.Hi.At, b.Lo.At, b.Hi.At} {
					clear(c[:cap(c)])
				}
				if text(m) != before {
					t.Errorf("P0.3: the meeting of order %d shares memory with what was handed in: %s; was %s", o, text(m), before)
				}
			}
		}
	}
}

// TestAnswers holds that nothing that is answered is shared, though both ends came from one list.
func TestAnswers(t *testing.T) {
	one := roomy("5")
	r := numeric(api.Bound{Is: true, At: one}, api.Bound{Is: true, At: one})
	m, _ := order.Meet(r, r)
	again, _ := order.Meet(r, r)
	m.Lo.At[0] = '7'
	_ = append(m.Lo.At, "and more"...)
	if string(m.Hi.At) != "5" || string(again.Lo.At) != "5" || string(again.Hi.At) != "5" || string(one[:cap(one)]) != "5behind.." {
		t.Errorf("P0.3: who writes into a meeting changes something else: %s, %s, %q", text(m), text(again), one[:cap(one)])
	}
}

func TestNilIsEmpty(t *testing.T) {
	for _, o := range append([]uint8{0, 6}, orders...) {
		is := o == api.Alpha || o == api.Binary
		for _, b := range [][]byte{nil, {}} {
			if order.Is(o, b) != is {
				t.Errorf("P0.4: Is of order %d and no bytes: %v", o, !is)
			}
			for _, c := range [][]byte{nil, {}} {
				if got, ok := order.Compare(o, b, c); got != 0 || ok != is {
					t.Errorf("P0.4: Compare of order %d and no bytes: %d, %v", o, got, ok)
				}
			}
			there := api.Range{Order: o, Lo: api.Bound{Is: true, At: b}, Hi: api.Bound{Is: true, At: b}}
			if order.May(there) != is || order.In(there, nil) != is || order.In(there, []byte{}) != is || order.Empty(there) {
				t.Errorf("P0.4: a range of order %d with ends of no bytes", o)
			}
			missing := api.Range{Order: o, Lo: api.Bound{At: b}, Hi: api.Bound{At: b}}
			if may := slices.Contains(orders, o); order.May(missing) != may || order.Within(missing, api.Range{Order: o}) != may {
				t.Errorf("P0.4: a range of order %d without ends", o)
			}
			m, ok := order.Meet(missing, api.Range{Order: o})
			if ok != slices.Contains(orders, o) || ok && !sameRange(m, api.Range{Order: o}) {
				t.Errorf("P0.4: Meet of order %d without ends: %s, %v", o, text(m), ok)
			}
		}
	}
}

func TestAgain(t *testing.T) {
	ask := func() (out []string) {
		for _, o := range append([]uint8{0, 6, math.MaxUint8}, orders...) {
			l := rangesOf(o)
			for i, a := range l {
				b := l[len(l)-1-i]
				m, ok := order.Meet(a, b)
				c, is := order.Compare(o, a.Lo.At, b.Hi.At)
				out = append(out, fmt.Sprint(text(m), ok, c, is, order.May(a), order.Is(o, a.Lo.At), order.In(a, b.Lo.At), order.Empty(a), order.Within(a, b)))
			}
		}
		return out
	}
	first := ask()
	for range 3 {
		if !slices.Equal(ask(), first) {
			t.Fatal("P0.5: the same calls answer otherwise")
		}
	}
}
