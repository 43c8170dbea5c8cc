package curve_test

import (
	"crypto/elliptic"
	"math/big"
	"math/rand"
	"strings"
	"testing"

	"seneschal/api"
	"seneschal/curve"
)

// What the chapters say of the curve, its base point and the moduli.
const (
	digitsP  = "ffffffff00000001 0000000000000000 00000000ffffffff ffffffffffffffff"
	digitsN  = "ffffffff00000000 ffffffffffffffff bce6faada7179e84 f3b9cac2fc632551"
	digitsB  = "5ac635d8aa3a93e7 b3ebbd55769886bc 651d06b0cc53b0f6 3bce3c3e27d2604b"
	digitsGX = "6b17d1f2e12c4247 f8bce6e563a440f2 77037d812deb33a0 f4a13945d898c296"
	digitsGY = "4fe342e2fe1a7f9b 8ee7eb4a7c0f9e16 2bce33576b315ece cbb6406837bf51f5"
	digits2G = "7cf27b188d034f7e 8a52380304b51ac3 c08969e277f21b35 a60b48fc47669978"
)

// Y of the points whose X is 0, and 3 below P. X of points whose Y is small: with 1 and with 4 there are three each, whose sum is far out.
const (
	digitsOfX0    = "66485c780e2f83d7 2433bd5d84a06bb6 541c2af31dae8717 28bf856a174f93f4"
	digitsOfXTop  = "19719bebf6aea13f 25c96dfd7c71f522 5d4c8fc09eb5a0ab 9f39e9178e55c121"
	digitsOfY1    = "09e78d4ef60d05f7 50f6636209092bc4 3cbdd6b47e11a9de 20a9feb2a50bb96c"
	digitsOfY1Too = "6916fac45e568b6b 9e2e2ecd611b282e 5fcc40a3067d6010 57f879ce5a8a73cc"
	digitsOfY1Yet = "8d0177ebab9c6e9e 10db6dd095dbac0d 6375e8a97b70f611 875d877f0069d2c7"
	digitsOfY4    = "7fafb72b9e2f17b8 7cc216b6785c0bfc 860ed577216fd3c8 f30a7a8707e613ca"
	digitsOfY5    = "d7325d7646cd60d8 0a92738ceb345f84 4cffaf35841022ca b176f692de8de1d7"
)

// far: the point that is far out.
var far = api.Point{Inf: true}

// bigOf: a number written in base sixteen, with blanks.
func bigOf(digits string) *big.Int {
	x, ok := new(big.Int).SetString(strings.ReplaceAll(digits, " ", ""), 16)
	if !ok {
		panic(digits)
	}
	return x
}

func theP() *big.Int { return bigOf(digitsP) }

func toBig(a api.Num) *big.Int {
	x := new(big.Int)
	for i := len(a) - 1; i >= 0; i-- {
		x.Lsh(x, 64)
		x.Or(x, new(big.Int).SetUint64(a[i]))
	}
	return x
}

// toNum: the lowest 256 bits of a number.
func toNum(x *big.Int) api.Num {
	var a api.Num
	low := new(big.Int).Mod(x, new(big.Int).Lsh(big.NewInt(1), 256))
	for i := range a {
		a[i] = new(big.Int).Rsh(low, uint(64*i)).Uint64()
	}
	return a
}

// numOf: one written in base sixteen, and n.
func numOf(digits string, n int64) api.Num {
	return toNum(new(big.Int).Add(bigOf(digits), big.NewInt(n)))
}

// num: a number of 64 bits.
func num(n uint64) api.Num { return api.Num{n} }

// bytes32: those of a number, the highest first.
func bytes32(a api.Num) string { return string(toBig(a).FillBytes(make([]byte, 32))) }

// theBase: G, by the chapter's digits.
func theBase() api.Point { return api.Point{X: numOf(digitsGX, 0), Y: numOf(digitsGY, 0)} }

// opposite: of a point of the curve.
func opposite(p api.Point) api.Point {
	if p.Inf {
		return far
	}
	return api.Point{X: p.X, Y: toNum(new(big.Int).Sub(theP(), toBig(p.Y)))}
}

// isOn: as the chapter says it, by another program's numbers.
func isOn(p api.Point) bool {
	if p.Inf {
		return p.X == api.Num{} && p.Y == api.Num{}
	}
	x, y, m := toBig(p.X), toBig(p.Y), theP()
	if x.Cmp(m) >= 0 || y.Cmp(m) >= 0 {
		return false
	}
	cube := new(big.Int).Exp(x, big.NewInt(3), nil)
	cube.Sub(cube, new(big.Int).Mul(x, big.NewInt(3)))
	cube.Add(cube, bigOf(digitsB))
	square := new(big.Int).Mul(y, y)
	return square.Mod(square, m).Cmp(cube.Mod(cube, m)) == 0
}

// slope: that of two points that are no opposites, as the chapter says it.
func slope(p, q api.Point) *big.Int {
	x1, y1, x2, y2 := toBig(p.X), toBig(p.Y), toBig(q.X), toBig(q.Y)
	rise, run := new(big.Int).Sub(y2, y1), new(big.Int).Sub(x2, x1)
	if p == q {
		rise.Mul(x1, x1)
		rise.Sub(rise.Mul(rise, big.NewInt(3)), big.NewInt(3))
		run.Mul(y1, big.NewInt(2))
	}
	run.ModInverse(run.Mod(run, theP()), theP())
	return rise.Mod(rise.Mul(rise, run), theP())
}

// theSum: as the chapter says it, by another program's numbers.
func theSum(p, q api.Point) api.Point {
	switch {
	case p.Inf:
		return q
	case q.Inf:
		return p
	case q == opposite(p):
		return far
	}
	s, m := slope(p, q), theP()
	x := new(big.Int).Mul(s, s)
	x.Sub(x, toBig(p.X))
	x.Mod(x.Sub(x, toBig(q.X)), m)
	y := new(big.Int).Sub(toBig(p.X), x)
	y.Mul(y, s)
	y.Mod(y.Sub(y, toBig(p.Y)), m)
	return api.Point{X: toNum(x), Y: toNum(y)}
}

// theMultiple: by sums alone.
func theMultiple(k api.Num, p api.Point) api.Point {
	r := far
	for i := 255; i >= 0; i-- {
		r = theSum(r, r)
		if toBig(k).Bit(i) != 0 {
			r = theSum(r, p)
		}
	}
	return r
}

// ofTheOther: k G, as another program has it.
func ofTheOther(k api.Num) api.Point {
	left := new(big.Int).Mod(toBig(k), bigOf(digitsN))
	if left.Sign() == 0 {
		return far
	}
	x, y := elliptic.P256().ScalarBaseMult(left.Bytes())
	return api.Point{X: toNum(x), Y: toNum(y)}
}

// edgePoints: the one far out, small multiples of the base point, points with X or Y at an end, and the opposites of all.
func edgePoints() []api.Point {
	l := []api.Point{
		{X: num(0), Y: numOf(digitsOfX0, 0)},
		{X: numOf(digitsP, -3), Y: numOf(digitsOfXTop, 0)},
		{X: numOf(digitsOfY1, 0), Y: num(1)},
		{X: numOf(digitsOfY1Too, 0), Y: num(1)},
		{X: numOf(digitsOfY1Yet, 0), Y: num(1)},
		{X: numOf(digitsOfY4, 0), Y: num(4)},
		{X: numOf(digitsOfY5, 0), Y: num(5)},
	}
	g := theBase()
	for sum := far; len(l) < 16; {
		sum = theSum(sum, g)
		l = append(l, sum)
	}
	for _, p := range l[:len(l):len(l)] {
		l = append(l, opposite(p))
	}
	return append(l, far)
}

// somePoints: the edges, and some by chance, always the same ones.
func somePoints(n int) []api.Point {
	l := edgePoints()
	r := rand.New(rand.NewSource(7))
	for range n {
		l = append(l, ofTheOther(anyNum(r)))
	}
	return l
}

// anyNum: one by chance.
func anyNum(r *rand.Rand) api.Num {
	return api.Num{r.Uint64(), r.Uint64(), r.Uint64(), r.Uint64()}
}

// edgeNums: those about 0, about N and its multiples, about powers of two, those with one digit again and again, and the greatest ones.
func edgeNums() []api.Num {
	var l []api.Num
	for d := int64(-34); d <= 34; d++ {
		l = append(l, numOf(digitsN, d))
	}
	for d := range int64(35) {
		l = append(l, num(uint64(d)), toNum(big.NewInt(-1-d)))
	}
	for bit := uint(4); bit < 256; bit++ {
		x := new(big.Int).Lsh(big.NewInt(1), bit)
		l = append(l, toNum(x), toNum(new(big.Int).Sub(x, big.NewInt(1))))
	}
	for digit := range uint64(16) {
		limb := digit * 0x1111111111111111
		l = append(l, api.Num{limb, limb, limb, limb}, api.Num{0, 0, 0, limb}, api.Num{limb})
	}
	half := new(big.Int).Rsh(bigOf(digitsN), 1)
	return append(l, toNum(half), toNum(half.Add(half, big.NewInt(1))), numOf(digitsP, -1), numOf(digitsP, 0))
}

// notPoints: what may be none, near points of the curve and far from them.
func notPoints() []api.Point {
	g, p := theBase(), numOf(digitsP, 0)
	l := []api.Point{
		{}, {X: num(1), Y: num(1)}, {Y: num(1)}, {X: num(1)}, {X: g.Y, Y: g.X}, {X: g.X}, {Y: g.Y},
		{Inf: true, X: num(1)}, {Inf: true, Y: num(1)}, {Inf: true, X: g.X, Y: g.Y}, {Inf: true, X: p}, {Inf: true, Y: p}, {Inf: true, X: p, Y: p}, {Inf: true, X: api.Num{0, 0, 0, 1}}, {Inf: true, Y: api.Num{0, 0, 0, 1 << 63}},
		{X: p, Y: numOf(digitsOfX0, 0)}, {X: numOf(digitsOfY1, 0), Y: numOf(digitsP, 1)}, {X: numOf(digitsOfY5, 0), Y: numOf(digitsP, 5)},
		{X: p, Y: p}, {X: toNum(big.NewInt(-1)), Y: toNum(big.NewInt(-1))}, {X: numOf(digitsOfY1, 0), Y: toNum(big.NewInt(-1))},
	}
	for _, q := range edgePoints() {
		if q.Inf {
			continue
		}
		for i := range 4 {
			x, y := q, q
			x.X[i] ^= 1 << (13 * i)
			y.Y[i] ^= 1 << (63 - 13*i)
			l = append(l, x, y)
		}
		q.Inf = true
		l = append(l, q)
	}
	return l
}

// sumIs: Add answers what the chapter says.
func sumIs(t *testing.T, p, q api.Point) {
	t.Helper()
	if got, e := curve.Add(p, q); got != theSum(p, q) || e != api.OK {
		t.Errorf("Add %v, %v: %v, %d; want %v", p, q, got, e, theSum(p, q))
	}
}

// multipleIs: Mul answers that.
func multipleIs(t *testing.T, k api.Num, p, want api.Point) {
	t.Helper()
	if got, e := curve.Mul(k, p); got != want || e != api.OK {
		t.Errorf("Mul %v, %v: %v, %d; want %v", k, p, got, e, want)
	}
}

// refused: Neg, Add, Mul and Bytes answer the error alone.
func refused(t *testing.T, p api.Point) {
	t.Helper()
	const want = api.ErrCurvePoint
	if x, e := curve.Neg(p); x != (api.Point{}) || e != want {
		t.Errorf("Neg %v: %v, %d", p, x, e)
	}
	for _, q := range []api.Point{theBase(), far, p, {X: num(1), Y: num(1)}} {
		if x, e := curve.Add(p, q); x != (api.Point{}) || e != want {
			t.Errorf("Add %v, %v: %v, %d", p, q, x, e)
		}
		if x, e := curve.Add(q, p); x != (api.Point{}) || e != want {
			t.Errorf("Add %v, %v: %v, %d", q, p, x, e)
		}
	}
	for _, k := range []api.Num{num(0), num(1), num(2), numOf(digitsN, 0), toNum(big.NewInt(-1))} {
		if x, e := curve.Mul(k, p); x != (api.Point{}) || e != want {
			t.Errorf("Mul %v, %v: %v, %d", k, p, x, e)
		}
	}
	if s, e := curve.Bytes(p); s != "" || e != want {
		t.Errorf("Bytes %v: %x, %d", p, s, e)
	}
}

// theBytes: a point's, as the chapter says it.
func theBytes(p api.Point) string {
	if p.Inf {
		return "\x00"
	}
	return "\x04" + bytes32(p.X) + bytes32(p.Y)
}

// ofIs: Of answers the point whose bytes s is, or nothing but the error.
func ofIs(t *testing.T, s string) {
	t.Helper()
	want, e := api.Point{}, api.ErrCurveText
	if s == "\x00" {
		want, e = far, api.OK
	}
	if len(s) == 65 && s[0] == 4 {
		p := api.Point{X: toNum(new(big.Int).SetBytes([]byte(s[1:33]))), Y: toNum(new(big.Int).SetBytes([]byte(s[33:])))}
		if isOn(p) {
			want, e = p, api.OK
		}
	}
	if got, err := curve.Of(s); got != want || err != e {
		t.Errorf("Of %.140x (%d bytes): %v, %d; want %v, %d", s, len(s), got, err, want, e)
	}
}
