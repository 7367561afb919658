package octet_test

import (
	"bytes"
	"encoding/base64"
	"encoding/hex"
	"math"
	"math/big"
	"math/rand"
	"slices"
	"strconv"
	"strings"
	"testing"

	"greffier/api"
	"greffier/octet"
)

// everyByte are all bytes, from 0 on.
func everyByte() []byte {
	b := make([]byte, 256)
	for i := range b {
		b[i] = byte(i)
	}
	return b
}

// samples are rows of bytes of all lengths up to 200, the same ones each time.
func samples() [][]byte {
	source := rand.New(rand.NewSource(1))
	l := [][]byte{nil, {}, everyByte(), bytes.Repeat([]byte{0}, 100), bytes.Repeat([]byte{255}, 100)}
	for n := range 200 {
		b := make([]byte, n)
		source.Read(b)
		l = append(l, b)
	}
	return l
}

// eachText calls f with each text of so many of some signs.
func eachText(signs string, n int, f func(s string)) {
	if n == 0 {
		f("")
		return
	}
	for i := range len(signs) {
		eachText(signs, n-1, func(s string) { f(signs[i:i+1] + s) })
	}
}

func checkUnhex(t *testing.T, s string) {
	t.Helper()
	got, e := octet.Unhex(s)
	want, err := hex.DecodeString(s)
	if err != nil {
		if e != api.ErrForm || got != nil {
			t.Errorf("P1.1: Unhex(%q) = %v, %v; want none, ErrForm", s, got, e)
		}
		return
	}
	if e != api.OK || !bytes.Equal(got, want) {
		t.Errorf("P1.1: Unhex(%q) = %v, %v; want %v, OK", s, got, e, want)
	}
}

func checkUnbase64(t *testing.T, s string) {
	t.Helper()
	got, e := octet.Unbase64(s)
	want, err := base64.StdEncoding.Strict().DecodeString(s)
	// The library's reader passes over line ends; here they are no signs.
	if err != nil || strings.ContainsAny(s, "\r\n") {
		if e != api.ErrForm || got != nil {
			t.Errorf("P1.1: Unbase64(%q) = %v, %v; want none, ErrForm", s, got, e)
		}
		return
	}
	if e != api.OK || !bytes.Equal(got, want) {
		t.Errorf("P1.1: Unbase64(%q) = %v, %v; want %v, OK", s, got, e, want)
	}
	if back := octet.Base64(got); back != s {
		t.Errorf("P1.2: Unbase64(%q) is written %q", s, back)
	}
}

func TestHex(t *testing.T) {
	for _, b := range samples() {
		s := octet.Hex(b)
		if want := hex.EncodeToString(b); s != want {
			t.Errorf("P1.1: Hex(%v) = %q; want %q", b, s, want)
		}
		for _, text := range []string{s, strings.ToUpper(s)} {
			if back, e := octet.Unhex(text); e != api.OK || !bytes.Equal(back, b) {
				t.Errorf("P1.2: Unhex(%q) = %v, %v; want %v, OK", text, back, e, b)
			}
		}
	}
}

func TestUnhex(t *testing.T) {
	for _, s := range []string{"", "0aFF", "0AfF", "0", "abc", "0aF", "0x", "x0", " 00", "00 ", "0 0 ", "00\n", "é", "-1", "+1", "０"} {
		checkUnhex(t, s)
	}
	eachText(string(everyByte()), 2, func(s string) { checkUnhex(t, s) })
	eachText("09afAFgG\x10 ", 4, func(s string) { checkUnhex(t, s) })
}

func TestBase64(t *testing.T) {
	if s := octet.Base64([]byte("a")); s != "YQ==" {
		t.Errorf("P1.1: Base64(a) = %q", s)
	}
	for _, b := range samples() {
		s := octet.Base64(b)
		if want := base64.StdEncoding.EncodeToString(b); s != want {
			t.Errorf("P1.1: Base64(%v) = %q; want %q", b, s, want)
		}
		if back, e := octet.Unbase64(s); e != api.OK || !bytes.Equal(back, b) {
			t.Errorf("P1.2: Unbase64(%q) = %v, %v; want %v, OK", s, back, e, b)
		}
	}
}

func TestUnbase64(t *testing.T) {
	for _, s := range []string{
		"", "=", "==", "===", "====", "A", "AA", "AAA", "AAAA", "A=", "A==", "A===", "AA=", "AA==", "AAA=",
		"AAAA=", "AAAA==", "AAAA===", "AAAA====", "AAA==", "AA===", "=AAA", "A=AA", "AA=A", "Y=Q=",
		"YQ==", "YR==", "Yg==", "YWI=", "YWJ=", "YQ==YQ==", "YWI=YWI=", "YWJjYQ==", "YWJjYR==",
		"YWJ\n", "YWJj\n", "YW\nJj", "YWJj\r\n\r\n", " YWJj", "YW Jj", "YWJj    ", "-_-_", "+/+/", "____",
		"YWJ\x00", "YWJé", "YQ=\x00", "Y\xff==",
	} {
		checkUnbase64(t, s)
	}
	eachText("AQgw/=+\n-", 4, func(s string) { checkUnbase64(t, s) })
	eachText("AB/=", 8, func(s string) { checkUnbase64(t, s) })
	for _, c := range everyByte() {
		for i := range 4 {
			s := []byte("AAAA")
			s[i] = c
			checkUnbase64(t, string(s))
			checkUnbase64(t, "AAAA"+string(s))
		}
		checkUnbase64(t, "A"+string([]byte{c})+"==")
		checkUnbase64(t, "AA"+string([]byte{c})+"=")
	}
}

func TestPutLen(t *testing.T) {
	for n, want := range map[int]string{
		math.MinInt: "0", -4096: "0", -1: "0", 0: "0", 1: "1", 9: "9", 10: "10", 4096: "4096", 100000: "100000",
		math.MaxInt: strconv.Itoa(math.MaxInt),
	} {
		if got := octet.PutLen(n); got != want {
			t.Errorf("P1.1: PutLen(%d) = %q; want %q", n, got, want)
		}
	}
}

func TestLengthThereAndBack(t *testing.T) {
	lengths := []int{math.MaxInt, math.MaxInt - 1, math.MaxInt / 10, math.MaxInt/10 + 1, math.MaxInt32}
	for n := range 5000 {
		lengths = append(lengths, n)
	}
	for _, n := range lengths {
		s := octet.PutLen(n)
		for _, most := range []int{n, max(n, 4096), math.MaxInt} {
			if got, at, e := octet.GetLen([]byte(s), 0, most); got != n || at != len(s) || e != api.OK {
				t.Errorf("P1.2: GetLen(%q, 0, %d) = %d, %d, %v", s, most, got, at, e)
			}
		}
		if got, at, e := octet.GetLen([]byte("(1"+s+":"), 2, n-1); n > 0 && (got != 0 || at != 2 || e != api.ErrLong) {
			t.Errorf("P1.1: GetLen of %q, at most %d, = %d, %d, %v", s, n-1, got, at, e)
		}
	}
}

// wantLen is what GetLen must answer, by numbers of any size.
func wantLen(b []byte, at, most int) (int, int, api.Errno) {
	switch {
	case at < 0:
		return 0, at, api.ErrArg
	case at >= len(b):
		return 0, at, api.ErrShort
	}
	digits := b[at:]
	if i := bytes.IndexFunc(digits, func(r rune) bool { return r < '0' || r > '9' }); i >= 0 {
		digits = digits[:i]
	}
	switch {
	case len(digits) == 0:
		return 0, at, api.ErrForm
	case digits[0] == '0':
		return 0, at + 1, api.OK
	}
	n, _ := new(big.Int).SetString(string(digits), 10)
	if n.Cmp(big.NewInt(int64(max(most, 0)))) > 0 {
		return 0, at, api.ErrLong
	}
	return int(n.Int64()), at + len(digits), api.OK
}

func TestGetLen(t *testing.T) {
	texts := []string{
		"", "0", "00", "01", "012", "0:", "1", "1:", "9", "10", "120:", "x120:", ":", "/", "-1", "+1", " 1", "1 ",
		"4096", "4097", "4095x", "40960", "\xff", "1\xff", "٣", "1٣",
		strconv.Itoa(math.MaxInt), "9223372036854775806", "9223372036854775808", "9223372036854775810",
		"18446744073709551615", "18446744073709551616", "18446744073709551617", "99999999999999999999999999",
		strings.Repeat("9", 1000), "1" + strings.Repeat("0", 64), strings.Repeat("0", 1000),
	}
	for _, c := range everyByte() {
		texts = append(texts, string([]byte{c}), string([]byte{'1', c, '2'}))
	}
	places := []int{math.MinInt, -2, -1, 0, 1, 2, 3, 4, 5, 999, 1000, math.MaxInt - 1, math.MaxInt}
	mosts := []int{math.MinInt, -1, 0, 1, 5, 8, 9, 10, 11, 12, 100, 119, 120, 4095, 4096, 4097, math.MaxInt - 1, math.MaxInt}
	for _, s := range texts {
		for _, at := range append(places, len(s)-1, len(s), len(s)+1) {
			for _, most := range mosts {
				n, end, e := octet.GetLen([]byte(s), at, most)
				wantN, wantEnd, wantE := wantLen([]byte(s), at, most)
				if n != wantN || end != wantEnd || e != wantE {
					t.Errorf("P1.1: GetLen(%q, %d, %d) = %d, %d, %v; want %d, %d, %v",
						s, at, most, n, end, e, wantN, wantEnd, wantE)
				}
			}
		}
	}
}

// P0.2: of several errors the answer is the one that is named first.
func TestGetLenFirstError(t *testing.T) {
	if n, at, e := octet.GetLen(nil, -1, -1); n != 0 || at != -1 || e != api.ErrArg {
		t.Errorf("P0.2: a place below 0 of no bytes: %d, %d, %v", n, at, e)
	}
	if n, at, e := octet.GetLen(nil, 0, -1); n != 0 || at != 0 || e != api.ErrShort {
		t.Errorf("P0.2: no bytes: %d, %d, %v", n, at, e)
	}
	if n, at, e := octet.GetLen([]byte("x9"), 0, 1); n != 0 || at != 0 || e != api.ErrForm {
		t.Errorf("P0.2: no digit: %d, %d, %v", n, at, e)
	}
}

// P0.1, P0.3, P0.5: no call panics or changes what is handed in, and the same arguments come to the same answers.
func TestAnyBytes(t *testing.T) {
	for _, b := range samples() {
		room := append(slices.Clone(b), "room behind the end"...)
		before := slices.Clone(room)
		in := room[:len(b)]
		first := []any{octet.Hex(in), octet.Base64(in)}
		octet.Unhex(string(in))
		octet.Unbase64(string(in))
		for at := -1; at <= len(in)+1; at++ {
			octet.GetLen(in, at, 4096)
		}
		if !bytes.Equal(room, before) {
			t.Errorf("P0.3: %v was changed to %v", before, room)
		}
		if again := []any{octet.Hex(in), octet.Base64(in)}; !slices.Equal(first, again) {
			t.Errorf("P0.5: %v, then %v", first, again)
		}
	}
}

// P0.3: whoever writes into an answer, or behind its end, changes no other one, nor what was handed in.
func TestAnswersAreNew(t *testing.T) {
	reads := map[string]func() ([]byte, api.Errno){
		"Unhex":    func() ([]byte, api.Errno) { return octet.Unhex("616263") },
		"Unbase64": func() ([]byte, api.Errno) { return octet.Unbase64("YWJj") },
	}
	for name, read := range reads {
		first, _ := read()
		second, _ := read()
		clear(first[:cap(first)])
		third, _ := read()
		if string(second) != "abc" || string(third) != "abc" {
			t.Errorf("P0.3: %s: answers are not new memory: %q, %q", name, second, third)
		}
	}
	in := []byte("abc")
	digits, signs := octet.Hex(in), octet.Base64(in)
	clear(in)
	if digits != "616263" || signs != "YWJj" {
		t.Errorf("P0.3: what was handed in is kept: %q, %q", digits, signs)
	}
}

// P0.4: a nil list is the same as an empty one.
func TestNilIsEmpty(t *testing.T) {
	for _, b := range [][]byte{nil, {}} {
		if s := octet.Hex(b); s != "" {
			t.Errorf("P0.4: Hex of nothing: %q", s)
		}
		if s := octet.Base64(b); s != "" {
			t.Errorf("P0.4: Base64 of nothing: %q", s)
		}
		if n, at, e := octet.GetLen(b, 0, 9); n != 0 || at != 0 || e != api.ErrShort {
			t.Errorf("P0.4: GetLen of nothing: %d, %d, %v", n, at, e)
		}
	}
}
