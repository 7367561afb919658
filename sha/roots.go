package sha

import "math/bits"

// primes are the first primes, as many as there are constants.
func primes() (known [80]uint64) {
	found := 0
next:
	for n := uint64(2); found < len(known); n++ {
		for _, prime := range known[:found] {
			// What isn't prime has a factor no higher than its square root.
			if prime*prime > n {
				break
			}
			if n%prime == 0 {
				continue next
			}
		}
		known[found] = n
		found++
	}
	return known
}

// firstWords are those of square roots, with which a sum begins.
func firstWords(known [80]uint64) (words [8]uint64) {
	for i := range words {
		words[i] = rootFraction(known[i], square)
	}
	return words
}

// constants are those of cube roots.
func constants(known [80]uint64) (words [80]uint64) {
	for i, prime := range known {
		words[i] = rootFraction(prime, cube)
	}
	return words
}

// rootFraction are the first 64 bits of the fraction of a prime's root, of which power is the inverse.
func rootFraction(prime uint64, power func(whole, fraction uint64) uint64) uint64 {
	var whole, fraction uint64
	for power(whole+1, 0) < prime {
		whole++
	}
	// A prime's root has no end: what isn't below it here is above it, so that the power's whole part alone tells which.
	for bit := uint64(1 << 63); bit != 0; bit >>= 1 {
		if power(whole, fraction|bit) < prime {
			fraction |= bit
		}
	}
	return fraction
}

// square is the whole part of the square of a number, which has a small whole part and 64 bits of a fraction.
func square(whole, fraction uint64) uint64 {
	high, _, _ := fullSquare(whole, fraction)
	return high
}

// fullSquare is such a number's square: its whole part, and both words of its fraction.
func fullSquare(whole, fraction uint64) (high, middle, low uint64) {
	carry, low := bits.Mul64(fraction, fraction)
	carry, middle = timesPlus(2*whole, fraction, carry, 0)
	return whole*whole + carry, middle, low
}

// cube is the whole part of such a number's cube.
func cube(whole, fraction uint64) uint64 {
	high, middle, low := fullSquare(whole, fraction)
	// What the fraction makes of a word stands one word lower than what the whole part does.
	carry, _ := bits.Mul64(low, fraction)
	carry, third := timesPlus(middle, fraction, carry, 0)
	first, second := timesPlus(high, fraction, carry, 0)
	carry, _ = timesPlus(low, whole, third, 0)
	carry, _ = timesPlus(middle, whole, second, carry)
	return high*whole + first + carry
}

// timesPlus is x times y, plus two others, in a high and a low word.
func timesPlus(x, y, one, other uint64) (high, low uint64) {
	high, low = bits.Mul64(x, y)
	low, carry := bits.Add64(low, one, 0)
	high += carry
	low, carry = bits.Add64(low, other, 0)
	return high + carry, low
}
