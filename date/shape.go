package date

import (
	"strconv"
	"strings"
)

// numbers are those whose digits stand in a text of a shape, one ahead of each sign that is no digit's, and the last one.
func numbers(b []byte, shape string) ([]int64, bool) {
	if len(b) != len(shape) {
		return nil, false
	}
	l := []int64{0}
	for i, sign := range shape {
		c := rune(b[i])
		switch {
		case sign == '0' && '0' <= c && c <= '9':
			last := len(l) - 1
			l[last] = 10*l[last] + int64(c-'0')
		case sign != '0' && sign == c:
			l = append(l, 0)
		default:
			return nil, false
		}
	}
	return l, true
}

// digits are a number's, with noughts ahead, so that there are so many.
func digits(n int64, count int) string {
	s := strconv.FormatInt(n, 10)
	return strings.Repeat("0", count-len(s)) + s
}
