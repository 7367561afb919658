// Package octet is layer 1: see shared/doc/01-octet.md.
package octet

import (
	"strconv"
	"strings"

	"greffier/api"
)

const (
	hexSigns    = "0123456789abcdef"
	base64Signs = "ABCDEFGHIJKLMNOPQRSTUVWXYZabcdefghijklmnopqrstuvwxyz0123456789+/"
)

// Hex are the hexadecimal digits of bytes, in small letters.
func Hex(b []byte) string {
	var out strings.Builder
	for _, c := range b {
		out.WriteByte(hexSigns[c>>4])
		out.WriteByte(hexSigns[c&15])
	}
	return out.String()
}

// Unhex are the bytes of hexadecimal digits, in small or capital letters.
func Unhex(s string) ([]byte, api.Errno) {
	if len(s)%2 != 0 {
		return nil, api.ErrForm
	}
	out := make([]byte, 0, len(s)/2)
	for i := 0; i < len(s); i += 2 {
		high, low := hexDigit(s[i]), hexDigit(s[i+1])
		if high < 0 || low < 0 {
			return nil, api.ErrForm
		}
		out = append(out, byte(high<<4|low))
	}
	return out, api.OK
}

// hexDigit is a digit's worth, below 0 if the sign is none.
func hexDigit(c byte) int {
	if 'A' <= c && c <= 'F' {
		c += 'a' - 'A'
	}
	return strings.IndexByte(hexSigns, c)
}

// Base64 is the Base64 of bytes.
func Base64(b []byte) string {
	var out strings.Builder
	for len(b) > 0 {
		var three [3]byte
		n := copy(three[:], b)
		b = b[n:]
		bits := uint32(three[0])<<16 | uint32(three[1])<<8 | uint32(three[2])
		// n bytes reach into n+1 signs; what no byte reaches is filled up.
		for i := range n + 1 {
			out.WriteByte(base64Signs[bits>>(18-6*i)&63])
		}
		out.WriteString("=="[:3-n])
	}
	return out.String()
}

// Unbase64 are the bytes of which a text is the Base64.
func Unbase64(s string) ([]byte, api.Errno) {
	signs := strings.TrimRight(s, "=")
	if len(s)%4 != 0 || len(s)-len(signs) > 2 {
		return nil, api.ErrForm
	}
	out := make([]byte, 0, len(s)/4*3)
	bits, count := 0, 0
	for i := range len(signs) {
		digit := strings.IndexByte(base64Signs, signs[i])
		if digit < 0 {
			return nil, api.ErrForm
		}
		bits, count = bits<<6|digit, count+6
		if count >= 8 {
			count -= 8
			out = append(out, byte(bits>>count))
			bits &= 1<<count - 1
		}
	}
	// Bits left over that aren't 0 would be another text for the same bytes.
	if bits != 0 {
		return nil, api.ErrForm
	}
	return out, api.OK
}

// PutLen are the digits of a length; one below 0 counts as 0.
func PutLen(n int) string {
	return strconv.Itoa(max(n, 0))
}

// GetLen is the length that stands at a place, at the most so much, and the place behind it.
func GetLen(b []byte, at, most int) (int, int, api.Errno) {
	if at < 0 {
		return 0, at, api.ErrArg
	}
	if at >= len(b) {
		return 0, at, api.ErrShort
	}
	if !isDigit(b[at]) {
		return 0, at, api.ErrForm
	}
	// No length but 0 itself has a nought ahead, so it ends there.
	if b[at] == '0' {
		return 0, at + 1, api.OK
	}
	most = max(most, 0)
	n, end := 0, at
	for ; end < len(b) && isDigit(b[end]); end++ {
		digit := int(b[end] - '0')
		// Asked this way round, nothing goes beyond an int.
		if digit > most || n > (most-digit)/10 {
			return 0, at, api.ErrLong
		}
		n = 10*n + digit
	}
	return n, end, api.OK
}

// isDigit tells whether a sign is a decimal digit.
func isDigit(c byte) bool {
	return '0' <= c && c <= '9'
}
