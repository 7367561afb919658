package order

import (
	"bytes"
	"cmp"
	"math"

	"greffier/api"
	"greffier/date"
	"greffier/number"
)

// standing tells how two values of an order do: -1, 0 or 1; false, if one is no value.
type standing func(a, b []byte) (int, bool)

// standingOf is an order's, if there is such an order.
func standingOf(order uint8) (standing, bool) {
	switch order {
	case api.Alpha:
		return asTexts, true
	case api.Numeric:
		return byNumbers(numeric), true
	case api.Clock:
		return byNumbers(date.Clock), true
	case api.Binary:
		return asBinary, true
	case api.Date:
		return byNumbers(date.Get), true
	}
	return nil, false
}

// byNumbers is how bytes stand whose numbers a function tells, if they have one.
func byNumbers[N int64 | float64](tell func([]byte) (N, bool)) standing {
	return func(a, b []byte) (int, bool) {
		x, first := tell(a)
		y, second := tell(b)
		if !first || !second {
			return 0, false
		}
		return cmp.Compare(x, y), true
	}
}

// numeric is a number's text's value.
func numeric(b []byte) (float64, bool) {
	x, ok := number.Get(b)
	// A NaN stands to none, itself among them, so it has no place in an order.
	if math.IsNaN(x) {
		return 0, false
	}
	return x, ok
}

// asTexts is how bytes stand one by one.
func asTexts(a, b []byte) (int, bool) {
	return bytes.Compare(a, b), true
}

// asBinary is how bytes stand as numbers, the highest byte first.
func asBinary(a, b []byte) (int, bool) {
	const nought = "\x00"
	a, b = bytes.TrimLeft(a, nought), bytes.TrimLeft(b, nought)
	if len(a) != len(b) {
		// With no noughts ahead, the one with more bytes is higher, whatever they are.
		return cmp.Compare(len(a), len(b)), true
	}
	return bytes.Compare(a, b), true
}
