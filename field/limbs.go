package field

import "math/bits"

// limbs are a number of 256 bits, the lowest first.
type limbs [4]uint64

// prime is p.
var prime = limbs{1<<64 - 19, 1<<64 - 1, 1<<64 - 1, 1<<63 - 1}

// add adds a number; what goes beyond 256 bits is lost.
func (n *limbs) add(other *limbs) {
	var carry uint64
	for i := range n {
		n[i], carry = bits.Add64(n[i], other[i], carry)
	}
}

// take takes a number away, and adds p, if it was the greater one.
func (n *limbs) take(other *limbs) {
	var borrow uint64
	for i := range n {
		n[i], borrow = bits.Sub64(n[i], other[i], borrow)
	}
	if borrow != 0 {
		p := prime
		n.add(&p)
	}
}

// round takes p away once, if it can: of a number below 2p the rest is left.
func (n *limbs) round() {
	p := prime
	n.take(&p)
}

// addTimes adds a number so many times, and tells what goes beyond 256 bits.
func (n *limbs) addTimes(times uint64, other *limbs) (carry uint64) {
	for i := range n {
		carry, n[i] = step(times, other[i], n[i], carry)
	}
	return carry
}

// step is a times b, and c and d: that never goes beyond two limbs.
func step(a, b, c, d uint64) (high, low uint64) {
	high, low = bits.Mul64(a, b)
	low, carry := bits.Add64(low, c, 0)
	high += carry
	low, carry = bits.Add64(low, d, 0)
	return high + carry, low
}

// times is the product's rest, divided by p.
func (n *limbs) times(other *limbs) limbs {
	var whole [8]uint64
	for i := range n {
		whole[i+4] = (*limbs)(whole[i:]).addTimes(n[i], other)
	}
	// 2^256 less 38 is twice p: so what stands from there on counts 38 times.
	low, high := (*limbs)(whole[:4]), (*limbs)(whole[4:])
	top := low.addTimes(38, high)
	low.fold(top)
	return *low
}

// fold leaves the rest of a number, divided by p; top are its bits beyond 256, so few that 19 times as much goes into a limb.
func (n *limbs) fold(top uint64) {
	// 2^255 less 19 is p: so what stands from there on counts 19 times. The sum is below 2p.
	above := top<<1 | n[3]>>63
	n[3] &= 1<<63 - 1
	n.add(&limbs{19 * above})
	n.round()
}
