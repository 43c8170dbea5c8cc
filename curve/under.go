package curve

import (
	"seneschal/api"
	"seneschal/field"
)

// modP tells layer 6 its modulus P.
const modP = 0

// A number is gone through in digits of base sixteen: each spares the sums that its four bits would take.
const (
	digitBits = 4
	digits    = 256 / digitBits
	base      = 1 << digitBits
)

// under is a point under way: X is x / (z z), Y is y / (z z z), so that no sum needs an inverse. z is 0 of the one far out alone, and then x and y are, too.
type under struct{ x, y, z api.Num }

// begin: a point of the curve, on its way.
func begin(p api.Point) under {
	if p.Inf {
		return under{}
	}
	return under{p.X, p.Y, api.Num{1}}
}

// point: the one that p has become.
func (p under) point() api.Point {
	if p == (under{}) {
		return api.Point{Inf: true}
	}
	// No error comes: z is not 0.
	inverse, _ := field.Inv(modP, p.z)
	one := p.over(inverse)
	return api.Point{X: one.x, Y: one.y}
}

// over: the same point, with f times its z. f is not 0.
func (p under) over(f api.Num) under {
	square := mul(f, f)
	return under{mul(p.x, square), mul(p.y, mul(square, f)), mul(p.z, f)}
}

// plus: the sum.
func (p under) plus(q under) under {
	if p == (under{}) {
		return q
	}
	if q == (under{}) {
		return p
	}
	// With the same z the points are the same if all of them is, opposites if x is.
	p, q = p.over(q.z), q.over(p.z)
	if p == q {
		return p.twice()
	}
	if p.x == q.x {
		return under{}
	}
	run, rise := sub(q.x, p.x), sub(q.y, p.y)
	return p.over(run).along(rise, mul(q.x, mul(run, run)))
}

// twice: the sum with itself.
func (p under) twice() under {
	if p == (under{}) {
		return p
	}
	// What z is multiplied by is not 0: a point with Y 0 would be its own opposite, and of an odd number of points, N, none is but the one far out.
	square := mul(p.z, p.z)
	rise := triple(mul(sub(p.x, square), add(p.x, square)))
	p = p.over(add(p.y, p.y))
	return p.along(rise, p.x)
}

// along: the sum with a point of the same z, whose x is other, by the slope rise / z.
func (p under) along(rise, other api.Num) under {
	x := sub(sub(mul(rise, rise), p.x), other)
	return under{x, sub(mul(rise, sub(p.x, x)), p.y), p.z}
}

// adders: for each digit what adds so many times p.
func adders(p under) [base]func(under) under {
	var l [base]func(under) under
	var times under
	for digit := range l {
		l[digit] = times.plus
		times = times.plus(p)
	}
	return l
}

// multiple: k times the point that plus adds, for each digit so many times.
func multiple(k api.Num, plus [base]func(under) under) under {
	var sum under
	for i := range digits {
		for range digitBits {
			sum = sum.twice()
		}
		sum = plus[digitOf(k, digits-1-i)](sum)
	}
	return sum
}

// digitOf: k's digit at a place, the lowest at 0.
func digitOf(k api.Num, place int) uint64 {
	const inLimb = 64 / digitBits
	return k[place/inLimb] >> (place % inLimb * digitBits) % base
}

// below: is it below P, as it stands?
func below(a api.Num) bool { return add(a, api.Num{}) == a }

func add(a, b api.Num) api.Num { return field.Add(modP, a, b) }

func sub(a, b api.Num) api.Num { return field.Sub(modP, a, b) }

func mul(a, b api.Num) api.Num { return field.Mul(modP, a, b) }

func triple(a api.Num) api.Num { return add(add(a, a), a) }
