package scalar

import (
	"math/bits"
	"slices"
)

// limbs are a number below L, the lowest 64 bits first.
type limbs [4]uint64

// order is L.
var order = limbs{0x5812631a5cf5d3ed, 0x14def9dea2f79cd6, 0, 1 << 60}

// rest is that of a number's bytes, divided by L.
func rest(b []byte) limbs { return limbs{1}.times(b) }

// times is the rest of the number, taken as many times as the bytes tell.
func (n limbs) times(b []byte) limbs {
	var sum limbs
	for _, digit := range slices.Backward(b) {
		for bit := byte(1 << 7); bit != 0; bit >>= 1 {
			sum = sum.add(sum)
			if digit&bit != 0 {
				sum = sum.add(n)
			}
		}
	}
	return sum
}

// add is the rest of the sum.
func (n limbs) add(other limbs) limbs {
	// Twice L goes into the limbs, so that nothing is carried beyond them.
	var carry uint64
	for i := range n {
		n[i], carry = bits.Add64(n[i], other[i], carry)
	}
	less, below := n.less(order)
	if below {
		return n
	}
	return less
}

// less is the difference, and whether it is below zero.
func (n limbs) less(other limbs) (limbs, bool) {
	var borrow uint64
	for i := range n {
		n[i], borrow = bits.Sub64(n[i], other[i], borrow)
	}
	return n, borrow != 0
}

// bytes are the number's, the lowest first.
func (n limbs) bytes() [size]byte {
	var out [size]byte
	for i := range out {
		out[i] = byte(n[i/8] >> (i % 8 * 8))
	}
	return out
}
