package field

// turn times itself is p - 1.
var turn = limbs{0xc4ee1b274a0ea0b0, 0x2f431806ad2fe478, 0x2b4d00993dfbd7a7, 0x2b8324804fc1df0b}

// Inv is what times it is 1.
func (x Elem) Inv() Elem {
	// The power by p - 2, whose bits are 250 ones, and 01011.
	x2 := x.squared(1)
	x8 := x2.squared(2)
	return x.ones(250).squared(5).Mul(x8).Mul(x2).Mul(x)
}

// Root is the even root.
func (x Elem) Root() (Elem, bool) {
	// The power by (p + 3) / 8, whose bits are 251 ones, and 0. Its square is x or -x, if x has a root at all.
	root := x.ones(251).squared(1)
	if !root.squared(1).Same(x) {
		root = root.Mul(Elem{turn})
	}
	if !root.squared(1).Same(x) {
		return Elem{}, false
	}
	if root.Odd() {
		root = Elem{}.Sub(root)
	}
	return root, true
}

// ones is the power by the number whose bits are so many ones, at least one.
func (x Elem) ones(count int) Elem {
	if count == 1 {
		return x
	}
	half := x.ones(count / 2)
	both := half.squared(count / 2).Mul(half)
	if count%2 == 1 {
		both = both.squared(1).Mul(x)
	}
	return both
}

// squared is x squared so many times.
func (x Elem) squared(times int) Elem {
	for range times {
		x = x.Mul(x)
	}
	return x
}
