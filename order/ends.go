package order

import (
	"bytes"

	"greffier/api"
)

// A side says into which direction of its order a range goes on from an end of that side.
const (
	lower  = 1
	higher = -1
)

// mayEnd tells whether an end may be one of a range of an order.
func mayEnd(order uint8, e api.Bound) bool {
	if !e.Is {
		return !e.Open && len(e.At) == 0
	}
	return Is(order, e.At)
}

// isInside tells whether nothing that an end leaves is beyond another one of the same side.
func isInside(order uint8, side int, e, other api.Bound) bool {
	if !e.Is || !other.Is {
		return !other.Is
	}
	c, _ := Compare(order, e.At, other.At)
	return c == side || c == 0 && (e.Open || !other.Open)
}

// inner is the one of two ends of a side that leaves less, of two that leave the same the first one.
func inner(order uint8, side int, e, other api.Bound) api.Bound {
	if isInside(order, side, e, other) {
		return e
	}
	return other
}

// copied is an end in new memory.
func copied(e api.Bound) api.Bound {
	return api.Bound{Is: e.Is, Open: e.Open, At: bytes.Clone(e.At)}
}
