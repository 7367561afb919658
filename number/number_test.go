package number_test

import (
	"bytes"
	"math"
	"math/big"
	"math/rand"
	"regexp"
	"slices"
	"strconv"
	"strings"
	"testing"

	"greffier/api"
	"greffier/number"
)

// inf and nan are values that have no literal; low is the zero that is negative.
var inf, nan, low = math.Inf(1), math.NaN(), math.Copysign(0, -1)

// otherNaNs are NaNs of other bits than the library's own.
func otherNaNs() []float64 {
	var l []float64
	for _, bits := range []uint64{0x7ff0000000000001, 0x7ff8000000000000, 0x7fffffffffffffff, 0xfff0000000000001, 0xfff8000000000000, 0xffffffffffffffff} {
		l = append(l, math.Float64frombits(bits))
	}
	return l
}

// same tells whether two values are one: two NaNs, or the same bits.
func same(x, y float64) bool {
	return x != x && y != y || math.Float64bits(x) == math.Float64bits(y)
}

var shape = regexp.MustCompile(`\A-?[0-9]+(\.[0-9]+)?\z`)

// want is a text's value by other means: the library's nearest float64 to the fraction of big numbers.
func want(s string) (float64, bool) {
	switch s {
	case "inf":
		return inf, true
	case "-inf":
		return -inf, true
	case "nan":
		return nan, true
	}
	signs := strings.NewReplacer("-", "", ".", "").Replace(s)
	if !shape.MatchString(s) || len(signs) > 15 {
		return 0, false
	}
	fraction, _ := new(big.Rat).SetString(strings.TrimPrefix(s, "-"))
	x, _ := fraction.Float64()
	if s[0] == '-' {
		x = -x
	}
	return x, true
}

// check holds what a text is against what it is by other means.
func check(t *testing.T, s string) {
	t.Helper()
	x, is := want(s)
	if got, ok := number.Get([]byte(s)); ok != is || !same(got, x) {
		t.Errorf("P9.1: Get of %.60q: %v, %v; want %v, %v", s, got, ok, x, is)
	}
}

func TestGetOfFew(t *testing.T) {
	for _, c := range []struct {
		s string
		x float64
	}{
		{"inf", inf}, {"-inf", -inf}, {"nan", nan},
		{"0", 0}, {"-0", low}, {"0.0", 0}, {"-0.0", low}, {"-00000000000000", low}, {"-0.00000000000000", low},
		{"5", 5}, {"-5", -5}, {"007", 7}, {"-2.50", -2.5}, {"0.1", 0.1}, {"0.3", 0.3}, {"9.5", 9.5},
		{"10", 10}, {"1024.125", 1024.125}, {"99.99", 99.99}, {"-0.5", -0.5},
		{"999999999999999", 999999999999999}, {"-999999999999999", -999999999999999},
		{"0.00000000000001", 1e-14}, {"9.99999999999999", 9.99999999999999}, {"99999999999999.9", 99999999999999.9},
		{"000000000000001", 1}, {"00000000000000.1", 0.1},
	} {
		if got, ok := number.Get([]byte(c.s)); !ok || !same(got, c.x) {
			t.Errorf("P9.1: Get of %q: %v, %v; want %v", c.s, got, ok, c.x)
		}
		check(t, c.s)
	}
}

func TestGetOfNone(t *testing.T) {
	for _, s := range []string{
		"", "-", ".", "-.", "1.", "-1.", ".5", "-.5", "1..5", "1.2.3", ".1.", "1.-5", "--1", "1-", "1-2", "-1-", "- 1",
		"+1", "+inf", "1e5", "1E5", "1.5e0", "0x1", "0x1p2", "1_000", "1,5", "1'000", " 1", "1 ", "1\n", "\t1", "1\x00", "\x001", "1/2",
		"Inf", "INF", "iNf", "--inf", "-inf ", " inf", "in", "inf.", "inf0", "0inf", "infinity", "-infinity", "-in", "i", "-i",
		"NaN", "NAN", "Nan", "-nan", "+nan", "nan ", "na", "n", "nan0", "nanana", "1.nan", "1.inf",
		"1234567890123456", "-1234567890123456", "0000000000000000", "0.000000000000000", "-0.000000000000000", "1.000000000000000",
		"123456789012345.0", "0000000000000001", "000000000000000.1",
		"\u0661", "\u06f5", "\uff11", "\u22121", "1\u00a0", "\ufeff1", "\u221e", "\xff", "1\xff", "\xb1",
	} {
		if got, ok := number.Get([]byte(s)); ok || !same(got, 0) {
			t.Errorf("P9.1: Get of %q: %v, %v; want 0, false", s, got, ok)
		}
		check(t, s)
	}
}

// TestGetOfEveryShort holds all texts of few signs, those beside the digits among them.
func TestGetOfEveryShort(t *testing.T) {
	const signs = "019-.+/:infae "
	l := []string{""}
	for range 5 {
		var longer []string
		for _, s := range l {
			check(t, s)
			for _, c := range signs {
				longer = append(longer, s+string(c))
			}
		}
		l = longer
	}
	for i := range 1 << 16 {
		check(t, string([]byte{byte(i >> 8), byte(i)}))
	}
	for i := range 1 << 8 {
		check(t, string([]byte{byte(i)}))
	}
}

// TestGetOfEveryByte holds each byte at each place of texts, put there and put between.
func TestGetOfEveryByte(t *testing.T) {
	for _, s := range []string{"inf", "-inf", "nan", "7", "-12.50", "123456789012345", "-1234567.89012345", "0.00000000000000"} {
		for i := range len(s) {
			check(t, s[:i])
			check(t, s[i:])
			check(t, s[:i]+s[i+1:])
			for c := range 256 {
				check(t, s[:i]+string([]byte{byte(c)})+s[i+1:])
				check(t, s[:i]+string([]byte{byte(c)})+s[i:])
			}
		}
		for c := range 256 {
			check(t, s+string([]byte{byte(c)}))
		}
	}
}

// TestGetOfEveryLength holds how many digits there may be, with the full stop at each place.
func TestGetOfEveryLength(t *testing.T) {
	for n := range 40 {
		for _, digit := range []string{"0", "1", "5", "9"} {
			s := strings.Repeat(digit, n)
			for _, sign := range []string{"", "-"} {
				check(t, sign+s)
				for at := range n + 1 {
					check(t, sign+s[:at]+"."+s[at:])
				}
				if _, ok := number.Get([]byte(sign + s)); ok != (1 <= n && n <= api.MaxDigits) {
					t.Errorf("P9.1: Get of %q: %v", sign+s, ok)
				}
				if _, ok := number.Get([]byte(sign + "0." + s)); ok != (1 <= n && n < api.MaxDigits) {
					t.Errorf("P9.1: Get of %q: %v", sign+"0."+s, ok)
				}
			}
		}
	}
	for _, c := range []string{"0", "9", ".", "-", "\x00", "inf", "nan", "0."} {
		s := strings.Repeat(c, 1<<20)
		check(t, s)
		check(t, "1."+s)
		check(t, "-"+s)
	}
}

// someDigits are random ones, the same each time, with the full stop at whatever place.
func someDigits(count int) []string {
	source := rand.New(rand.NewSource(9))
	var l []string
	for range count {
		b := make([]byte, 1+source.Intn(15))
		for i := range b {
			b[i] = "0123456789"[source.Intn(10)]
		}
		if at := source.Intn(len(b)); at > 0 {
			b = slices.Insert(b, at, '.')
		}
		if source.Intn(2) == 0 {
			b = slices.Insert(b, 0, '-')
		}
		l = append(l, string(b))
	}
	return l
}

// TestGetOfSome holds that the nearest float64 comes about, which a wrong way of rounding, once or twice, would miss.
func TestGetOfSome(t *testing.T) {
	for _, s := range someDigits(50000) {
		check(t, s)
		x, _ := strconv.ParseFloat(s, 64)
		if got, ok := number.Get([]byte(s)); !ok || !same(got, x) {
			t.Errorf("P9.1: Get of %q: %v, %v; want %v", s, got, ok, x)
		}
	}
}

func TestNoughtsBehind(t *testing.T) {
	l := append(someDigits(5000), "0.0", "-0.0", "0.1", "-2.5", "3.3", "0.7", "5.05", "9.9", "-99.99", "1.000", "123.456", "0.00000000001")
	for _, s := range l {
		if !strings.Contains(s, ".") {
			continue
		}
		x, ok := number.Get([]byte(s))
		if !ok {
			t.Fatalf("P9.1: Get of %q is none", s)
		}
		digits := len(strings.Trim(s, "-")) - 1
		for n := 1; digits+n <= 20; n++ {
			more := s + strings.Repeat("0", n)
			got, ok := number.Get([]byte(more))
			if digits+n > api.MaxDigits {
				x = 0
			}
			if ok != (digits+n <= api.MaxDigits) || !same(got, x) {
				t.Errorf("P9.2: Get of %q: %v, %v; of %q: %v", more, got, ok, s, x)
			}
		}
	}
}

// TestNoughtsBehindWhole holds that a whole number with noughts behind a full stop is the same one.
func TestNoughtsBehindWhole(t *testing.T) {
	for _, s := range []string{"0", "-0", "1", "-1", "7", "10", "-900", "123456", "99999999999999"} {
		x, _ := number.Get([]byte(s))
		for n := 1; len(strings.Trim(s, "-"))+n <= api.MaxDigits; n++ {
			more := s + "." + strings.Repeat("0", n)
			if got, ok := number.Get([]byte(more)); !ok || !same(got, x) {
				t.Errorf("P9.2: Get of %q: %v, %v; of %q: %v", more, got, ok, s, x)
			}
		}
	}
}

// rising are values each of which is above the one ahead.
func rising() []float64 {
	l := []float64{0, math.SmallestNonzeroFloat64, 2 * math.SmallestNonzeroFloat64, math.Float64frombits(1 << 52), 1e-14, 0.1, math.Nextafter(0.1, 1), 0.5, 1, math.Nextafter(1, 2), 2, 10, 999999999999999, 1 << 53, math.MaxFloat64, inf}
	for _, x := range slices.Clone(l[1:]) {
		l = append(l, -x)
	}
	slices.Sort(l)
	return l
}

// checkCompare holds how two values stand.
func checkCompare(t *testing.T, x, y float64, c int, is bool) {
	t.Helper()
	if got, ok := number.Compare(x, y); got != c || ok != is {
		t.Errorf("P9.1: Compare of %v and %v: %d, %v; want %d, %v", x, y, got, ok, c, is)
	}
}

func TestCompare(t *testing.T) {
	l := rising()
	for i, x := range l {
		for k, y := range l {
			c := 0
			if i < k {
				c = -1
			}
			if i > k {
				c = 1
			}
			checkCompare(t, x, y, c, true)
		}
	}
	for _, c := range []struct {
		x, y float64
		c    int
	}{{1, 2, -1}, {2, 1, 1}, {2, 2, 0}, {-1, -2, 1}, {-2, 1, -1}, {0, low, 0}, {low, 0, 0}, {low, low, 0}, {low, -1, 1}, {low, 1, -1}, {inf, inf, 0}, {-inf, -inf, 0}, {-inf, inf, -1}, {inf, math.MaxFloat64, 1}} {
		checkCompare(t, c.x, c.y, c.c, true)
	}
}

func TestCompareOfNaNs(t *testing.T) {
	nans := append(otherNaNs(), nan)
	for _, x := range nans {
		for _, y := range append(rising(), low) {
			checkCompare(t, x, y, 0, false)
			checkCompare(t, y, x, 0, false)
		}
		for _, y := range nans {
			checkCompare(t, x, y, 0, false)
		}
		checkCompare(t, x, x, 0, false)
	}
}

// TestCompareOfTexts holds values that texts tell against each other, as big numbers' fractions stand.
func TestCompareOfTexts(t *testing.T) {
	l := append(someDigits(300), "0", "-0", "0.0", "1", "1.0", "-1", "0.1", "0.10")
	for _, a := range l {
		for _, b := range l {
			x, _ := number.Get([]byte(a))
			y, _ := number.Get([]byte(b))
			p, _ := new(big.Rat).SetString(a)
			q, _ := new(big.Rat).SetString(b)
			checkCompare(t, x, y, p.Cmp(q), true)
		}
	}
}

// wantGreatest is that of a list, asked of each one against all.
func wantGreatest(l []float64) (float64, bool) {
	for _, x := range l {
		if x == x && !slices.ContainsFunc(l, func(y float64) bool { return y > x }) {
			return x, true
		}
	}
	return 0, false
}

// checkGreatest holds a list's greatest one.
func checkGreatest(t *testing.T, l []float64) {
	t.Helper()
	x, is := wantGreatest(l)
	if got, ok := number.Greatest(l); ok != is || !same(got, x) {
		t.Errorf("P9.1: Greatest of %v: %v, %v; want %v, %v", l, got, ok, x, is)
	}
}

func TestGreatestOfFew(t *testing.T) {
	for _, c := range []struct {
		l  []float64
		x  float64
		is bool
	}{
		{nil, 0, false},
		{[]float64{nan}, 0, false},
		{otherNaNs(), 0, false},
		{[]float64{3}, 3, true},
		{[]float64{-3}, -3, true},
		{[]float64{1, 3, 2}, 3, true},
		{[]float64{-1, -3, -2}, -1, true},
		{[]float64{-inf}, -inf, true},
		{[]float64{-inf, nan, -inf}, -inf, true},
		{[]float64{nan, -1, -inf}, -1, true},
		{[]float64{-5, nan}, -5, true},
		{[]float64{1, nan, 2, nan}, 2, true},
		{[]float64{nan, inf, math.MaxFloat64}, inf, true},
		{[]float64{0, low}, 0, true},
		{[]float64{low, 0}, low, true},
		{[]float64{-1, low, nan, 0}, low, true},
		{[]float64{nan, low}, low, true},
		{[]float64{low, 1, 0}, 1, true},
	} {
		if got, ok := number.Greatest(c.l); ok != c.is || !same(got, c.x) {
			t.Errorf("P9.1: Greatest of %v: %v, %v; want %v, %v", c.l, got, ok, c.x, c.is)
		}
		checkGreatest(t, c.l)
	}
}

// TestGreatestOfEvery holds all lists of few values, where NaNs, zeros and infinities stand ahead and behind.
func TestGreatestOfEvery(t *testing.T) {
	lists := [][]float64{nil}
	for range 6 {
		var longer [][]float64
		for _, l := range lists {
			checkGreatest(t, l)
			for _, x := range []float64{nan, 0, low, -inf, inf, -2, 1} {
				longer = append(longer, append(slices.Clone(l), x))
			}
		}
		lists = longer
	}
}

func TestGreatestOfMany(t *testing.T) {
	source := rand.New(rand.NewSource(90))
	values := append(rising(), low, nan)
	for range 2000 {
		l := make([]float64, source.Intn(50))
		for i := range l {
			l[i] = values[source.Intn(len(values))]
			if i%3 == 0 {
				l[i] = source.NormFloat64()
			}
		}
		checkGreatest(t, l)
	}
	long := slices.Repeat([]float64{nan}, 1<<20)
	if x, ok := number.Greatest(long); ok || !same(x, 0) {
		t.Errorf("P9.1: Greatest of many NaNs: %v, %v", x, ok)
	}
	long[1<<19] = -7
	if x, ok := number.Greatest(long); !ok || x != -7 {
		t.Errorf("P9.1: Greatest of many NaNs and -7: %v, %v", x, ok)
	}
}

func TestArguments(t *testing.T) {
	const all = "-12.50inf-infnan000000000000000001"
	for n := range len(all) {
		for at := range n + 1 {
			whole := []byte(all)
			x, ok := number.Get(whole[at:n])
			if string(whole) != all {
				t.Errorf("P0.3: Get of %q changes it, or what stands about it: %q", all[at:n], whole)
			}
			clear(whole)
			if y, again := number.Get(bytes.Clone([]byte(all[at:n]))); again != ok || !same(x, y) {
				t.Errorf("P0.3: what Get of %q is handed is kept", all[at:n])
			}
		}
	}
	values := []float64{nan, 2, low, inf, -inf, 0, 7}
	for n := range len(values) + 1 {
		whole := slices.Clone(values)
		x, ok := number.Greatest(whole[:n])
		if !slices.EqualFunc(whole, values, same) {
			t.Errorf("P0.3: Greatest of %v changes it, or what stands behind it: %v", values[:n], whole)
		}
		clear(whole)
		if y, again := number.Greatest(slices.Clone(values[:n])); again != ok || !same(x, y) {
			t.Errorf("P0.3: what Greatest of %v is handed is kept", values[:n])
		}
	}
}

func TestNilIsEmpty(t *testing.T) {
	for _, b := range [][]byte{nil, {}} {
		if x, ok := number.Get(b); ok || !same(x, 0) {
			t.Errorf("P0.4: Get of no bytes: %v, %v", x, ok)
		}
	}
	for _, l := range [][]float64{nil, {}} {
		if x, ok := number.Greatest(l); ok || !same(x, 0) {
			t.Errorf("P0.4: Greatest of no values: %v, %v", x, ok)
		}
	}
}

func TestAgain(t *testing.T) {
	ask := func() (out []uint64) {
		for _, s := range append(someDigits(50), "", "inf", "-inf", "nan", "none", "-0") {
			x, ok := number.Get([]byte(s))
			c, stand := number.Compare(x, 1)
			y, found := number.Greatest([]float64{nan, x, 1})
			out = append(out, math.Float64bits(x), math.Float64bits(y), uint64(c))
			for _, is := range []bool{ok, stand, found} {
				if is {
					out = append(out, 1)
				} else {
					out = append(out, 0)
				}
			}
		}
		return out
	}
	first := ask()
	for range 3 {
		if !slices.Equal(ask(), first) {
			t.Fatal("P0.5: the same calls answer otherwise")
		}
	}
}
