package point

import (
	"slices"

	"greffier/field"
)

// window is how many bits of a number are gone through at once.
const window = 4

// Neg is the point on the other side.
func (p Point) Neg() Point { return Point{field.Of(0).Sub(p.x), p.y, p.z} }

// Add is the sum.
func (p Point) Add(q Point) Point {
	xx, yy, zz := p.x.Mul(q.x), p.y.Mul(q.y), p.z.Mul(q.z)
	cross := p.x.Mul(q.y).Add(p.y.Mul(q.x))
	// Both fractions are taken below times above and below the line: so there is no d to be divided for.
	more := zz.Mul(field.Of(below))
	one, part := more.Mul(zz), xx.Mul(yy).Mul(field.Of(above))
	underX, underY := one.Sub(part), one.Add(part)
	return Point{
		more.Mul(cross).Mul(underY),
		more.Mul(yy.Add(xx)).Mul(underX),
		underX.Mul(underY),
	}
}

// twice is the sum with itself.
func (p Point) twice() Point {
	// On the curve 1 + d x^2 y^2 is y^2 - x^2, and 1 - d x^2 y^2 what is left of 2: that spares half of the products.
	xx, yy, zz := p.x.Mul(p.x), p.y.Mul(p.y), p.z.Mul(p.z)
	cross := p.x.Mul(p.y)
	underX := yy.Sub(xx)
	underY := zz.Add(zz).Sub(underX)
	return Point{
		cross.Add(cross).Mul(underY),
		yy.Add(xx).Mul(underX),
		underX.Mul(underY),
	}
}

// Times is a multiple.
func (p Point) Times(n [32]byte) Point {
	few := p.few()
	sum := Zero()
	for _, digit := range slices.Backward(n[:]) {
		sum = sum.doubled(window).Add(few[digit>>window])
		sum = sum.doubled(window).Add(few[digit%(1<<window)])
	}
	return sum
}

// few are the multiples that a window may ask for.
func (p Point) few() [1 << window]Point {
	few := [1 << window]Point{Zero()}
	for i := range len(few) - 1 {
		few[i+1] = few[i].Add(p)
	}
	return few
}

// doubled is the point, doubled so many times.
func (p Point) doubled(times int) Point {
	for range times {
		p = p.twice()
	}
	return p
}
