package field

import (
	"math"
	"math/bits"

	"seneschal/api"
)

// limbs: those of a number, the lowest first.
const limbs = 4

// plus: the sum, and what is carried over its end.
func plus(a, b api.Num) (sum api.Num, carry uint64) {
	for i := range limbs {
		sum[i], carry = bits.Add64(a[i], b[i], carry)
	}
	return sum, carry
}

// minus: the difference, and what is borrowed from beyond its end.
func minus(a, b api.Num) (diff api.Num, borrow uint64) {
	for i := range limbs {
		diff[i], borrow = bits.Sub64(a[i], b[i], borrow)
	}
	return diff, borrow
}

// left: what is left of a, divided by mod.
func left(a, mod api.Num) api.Num {
	// Once is enough: twice each modulus has more than 256 bits.
	less, borrow := minus(a, mod)
	if borrow != 0 {
		return a
	}
	return less
}

// product: the whole one.
func product(a, b api.Num) [2 * limbs]uint64 {
	var l [2 * limbs]uint64
	for i := range limbs {
		carry := uint64(0)
		for j := range limbs {
			l[i+j], carry = timesPlus(a[i], b[j], l[i+j], carry)
		}
		l[i+limbs] = carry
	}
	return l
}

// timesPlus: a times b, and c, and d, in two limbs, for it is never more than they hold.
func timesPlus(a, b, c, d uint64) (low, high uint64) {
	high, low = bits.Mul64(a, b)
	low, carry := bits.Add64(low, c, 0)
	high += carry
	low, carry = bits.Add64(low, d, 0)
	return low, high + carry
}

// leftBehind: what is left of r with one limb more behind it, divided by mod. r is below mod.
func leftBehind(r api.Num, limb uint64, mod api.Num) api.Num {
	q := quotient(r, mod)
	low := api.Num{limb, r[0], r[1], r[2]}
	high, carry, borrow := r[3], uint64(0), uint64(0)
	for i := range limbs {
		var n uint64
		n, carry = timesPlus(q, mod[i], carry, 0)
		low[i], borrow = bits.Sub64(low[i], n, borrow)
	}
	high -= carry + borrow
	// What q is too much was taken too often, and brought the number below 0: it is given back.
	for high != 0 {
		low, carry = plus(low, mod)
		high += carry
	}
	return low
}

// quotient: how often mod goes into r with any one limb behind it, or that and one or two too much.
func quotient(r, mod api.Num) uint64 {
	const top = limbs - 1
	if r[top] == mod[top] {
		return math.MaxUint64
	}
	// The highest limbs alone come so near because the highest bit of each modulus is 1 (Knuth, 4.3.1).
	q, _ := bits.Div64(r[top], r[top-1], mod[top])
	return q
}
