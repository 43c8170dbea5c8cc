package curve_test

import (
	"crypto/elliptic"
	"math/big"
	"math/rand"
	"strings"
	"testing"

	"seneschal/api"
	"seneschal/curve"
)

func TestP71Base(t *testing.T) {
	if p := curve.Base(); p != theBase() {
		t.Errorf("%v", p)
	}
	g := elliptic.P256().Params()
	if p := curve.Base(); p.X != toNum(g.Gx) || p.Y != toNum(g.Gy) || p.Inf {
		t.Errorf("%v", p)
	}
}

func TestP71OnOfExamples(t *testing.T) {
	for p, want := range map[api.Point]bool{theBase(): true, far: true, {X: num(1), Y: num(1)}: false, {Inf: true, X: num(1)}: false} {
		if curve.On(p) != want {
			t.Errorf("%v: %t", p, !want)
		}
	}
}

func TestP71On(t *testing.T) {
	for _, p := range somePoints(300) {
		if !curve.On(p) || !curve.On(opposite(p)) {
			t.Errorf("%v is none", p)
		}
	}
}

func TestP71NotOn(t *testing.T) {
	for _, p := range notPoints() {
		if curve.On(p) {
			t.Errorf("%v is one", p)
		}
	}
}

// Any X and Y are those of a point of some curve with another B, which are none here.
func TestP71OnOfOtherCurves(t *testing.T) {
	r := rand.New(rand.NewSource(71))
	for range 500 {
		for _, p := range []api.Point{{X: anyNum(r), Y: anyNum(r)}, {X: theBase().X, Y: anyNum(r)}, {X: anyNum(r), Y: theBase().Y}} {
			if curve.On(p) != isOn(p) {
				t.Errorf("%v: %t", p, curve.On(p))
			}
		}
	}
}

// Of each number at an end, as X and as Y.
func TestP71OnOfEnds(t *testing.T) {
	g := theBase()
	for _, a := range edgeNums() {
		for _, p := range []api.Point{{X: a, Y: g.Y}, {X: g.X, Y: a}, {X: a, Y: a}, {X: a}, {Y: a}, {X: a, Inf: true}, {Y: a, Inf: true}} {
			if curve.On(p) != isOn(p) {
				t.Errorf("%v: %t", p, curve.On(p))
			}
		}
	}
}

func TestP72Neg(t *testing.T) {
	for _, p := range somePoints(300) {
		if q, e := curve.Neg(p); q != opposite(p) || e != api.OK {
			t.Errorf("%v: %v, %d", p, q, e)
		}
	}
}

func TestP72AddOfExamples(t *testing.T) {
	g := curve.Base()
	if p, e := curve.Add(g, opposite(g)); p != far || e != api.OK {
		t.Errorf("%v, %d", p, e)
	}
	if p, e := curve.Add(g, far); p != g || e != api.OK {
		t.Errorf("%v, %d", p, e)
	}
	if p, e := curve.Add(g, g); p.X != numOf(digits2G, 0) || e != api.OK {
		t.Errorf("%v, %d", p, e)
	}
	if p, e := curve.Add(api.Point{X: num(1), Y: num(1)}, g); p != (api.Point{}) || e != api.ErrCurvePoint {
		t.Errorf("%v, %d", p, e)
	}
}

// All pairs, the same points and opposites among them, and pairs with a slope 0.
func TestP72Add(t *testing.T) {
	l := somePoints(12)
	for _, p := range l {
		for _, q := range l {
			sumIs(t, p, q)
		}
	}
}

func TestP72AddAsTheOther(t *testing.T) {
	r := rand.New(rand.NewSource(72))
	for range 300 {
		p, q := ofTheOther(anyNum(r)), ofTheOther(anyNum(r))
		x, y := elliptic.P256().Add(toBig(p.X), toBig(p.Y), toBig(q.X), toBig(q.Y))
		if got, e := curve.Add(p, q); got != (api.Point{X: toNum(x), Y: toNum(y)}) || e != api.OK {
			t.Errorf("%v, %v: %v, %d", p, q, got, e)
		}
	}
}

func TestP72MulOfExamples(t *testing.T) {
	g := curve.Base()
	multipleIs(t, num(0), g, far)
	multipleIs(t, num(1), g, g)
	multipleIs(t, numOf(digitsN, 0), g, far)
	multipleIs(t, numOf(digitsN, 1), g, g)
	if p, e := curve.Mul(num(2), g); p.X != numOf(digits2G, 0) || e != api.OK {
		t.Errorf("%v, %d", p, e)
	}
}

func TestP72MulAtTheEnds(t *testing.T) {
	for _, k := range edgeNums() {
		multipleIs(t, k, curve.Base(), ofTheOther(k))
		multipleIs(t, k, far, far)
	}
}

func TestP72MulOfEachEdge(t *testing.T) {
	for _, p := range edgePoints() {
		for _, k := range []api.Num{num(0), num(1), num(2), num(3), num(15), num(16), num(17), num(0x1234), numOf(digitsN, -1), numOf(digitsN, 0), numOf(digitsN, 30), toNum(big.NewInt(-1))} {
			multipleIs(t, k, p, theMultiple(k, p))
		}
	}
}

func TestP72MulAsTheOther(t *testing.T) {
	r := rand.New(rand.NewSource(73))
	for range 300 {
		k := anyNum(r)
		multipleIs(t, k, curve.Base(), ofTheOther(k))
		p, k := ofTheOther(k), anyNum(r)
		x, y := elliptic.P256().ScalarMult(toBig(p.X), toBig(p.Y), toBig(k).Bytes())
		multipleIs(t, k, p, api.Point{X: toNum(x), Y: toNum(y)})
	}
}

// What is no point is refused in each place, by 0 and by N too.
func TestP72Refused(t *testing.T) {
	for _, p := range notPoints() {
		refused(t, p)
	}
}

func TestP73Bytes(t *testing.T) {
	for _, p := range somePoints(300) {
		if s, e := curve.Bytes(p); s != theBytes(p) || e != api.OK {
			t.Errorf("%v: %x, %d", p, s, e)
		}
	}
}

func TestP73BytesAsTheOther(t *testing.T) {
	g := elliptic.P256().Params()
	if s, e := curve.Bytes(curve.Base()); s != string(elliptic.Marshal(elliptic.P256(), g.Gx, g.Gy)) || e != api.OK {
		t.Errorf("%x, %d", s, e)
	}
}

func TestP73OfOfExamples(t *testing.T) {
	if p, e := curve.Of("\x00"); p != far || e != api.OK {
		t.Errorf("%v, %d", p, e)
	}
	g := theBytes(theBase())
	for _, s := range []string{"", "\x04", g[:64] + string([]byte{g[64] + 1})} {
		if p, e := curve.Of(s); p != (api.Point{}) || e != api.ErrCurveText {
			t.Errorf("%x: %v, %d", s, p, e)
		}
	}
}

func TestP73Of(t *testing.T) {
	for _, p := range somePoints(300) {
		if q, e := curve.Of(theBytes(p)); q != p || e != api.OK {
			t.Errorf("%v: %v, %d", p, q, e)
		}
	}
}

// What is no point's bytes: numbers that are no point, or not below P.
func TestP73OfNotPoints(t *testing.T) {
	for _, p := range notPoints() {
		if p.Inf {
			continue
		}
		if q, e := curve.Of(theBytes(p)); q != (api.Point{}) || e != api.ErrCurveText {
			t.Errorf("%v: %v, %d", p, q, e)
		}
	}
}

// Of the length, and of the byte in front: short forms of a point are none here.
func TestP73OfOtherTexts(t *testing.T) {
	for _, p := range edgePoints()[:12] {
		s := theBytes(p)
		for n := range s {
			ofIs(t, s[:n])
			ofIs(t, s[n:])
			ofIs(t, s+s[:n])
		}
		for i := range 256 {
			first := string([]byte{byte(i)})
			ofIs(t, first)
			ofIs(t, first+s[1:])
			ofIs(t, first+s[1:33])
			ofIs(t, first+s)
			ofIs(t, s+first)
		}
		ofIs(t, strings.Repeat("\x00", 65))
		ofIs(t, "\x00"+s[1:])
		ofIs(t, "\x04"+strings.Repeat("\x00", 64))
		ofIs(t, s+strings.Repeat("\x00", 1000))
	}
}

// Each bit of each byte counts.
func TestP73OfEachBit(t *testing.T) {
	s := []byte(theBytes(theBase()))
	for i := range s {
		for bit := range 8 {
			s[i] ^= 1 << bit
			if p, e := curve.Of(string(s)); p != (api.Point{}) || e != api.ErrCurveText {
				t.Errorf("%x: %v, %d", s, p, e)
			}
			s[i] ^= 1 << bit
		}
	}
}

// sum: of points that are some.
func sum(t *testing.T, p, q api.Point) api.Point {
	t.Helper()
	r, e := curve.Add(p, q)
	if e != api.OK || !curve.On(r) {
		t.Fatalf("%v, %v: %v, %d", p, q, r, e)
	}
	return r
}

// times: a multiple of a point that is one.
func times(t *testing.T, k api.Num, p api.Point) api.Point {
	t.Helper()
	r, e := curve.Mul(k, p)
	if e != api.OK || !curve.On(r) {
		t.Fatalf("%v, %v: %v, %d", k, p, r, e)
	}
	return r
}

func TestP74Group(t *testing.T) {
	l := somePoints(6)
	r := rand.New(rand.NewSource(74))
	for range 1500 {
		a, b, c := l[r.Intn(len(l))], l[r.Intn(len(l))], l[r.Intn(len(l))]
		if x, y := sum(t, sum(t, a, b), c), sum(t, a, sum(t, b, c)); x != y {
			t.Errorf("%v, %v, %v: %v and %v", a, b, c, x, y)
		}
		if x, y := sum(t, a, b), sum(t, b, a); x != y {
			t.Errorf("%v, %v: %v and %v", a, b, x, y)
		}
	}
	for _, p := range l {
		q, _ := curve.Neg(p)
		if sum(t, p, q) != far || sum(t, p, far) != p || sum(t, far, p) != p {
			t.Errorf("%v", p)
		}
	}
}

// Three points of one straight line are far out together: those with the same Y.
func TestP74PointsOfALine(t *testing.T) {
	l := edgePoints()[2:5]
	if p := sum(t, sum(t, l[0], l[1]), l[2]); p != far {
		t.Errorf("%v", p)
	}
}

func TestP74MultiplesByTheirNumbers(t *testing.T) {
	r := rand.New(rand.NewSource(75))
	l := somePoints(6)
	for _, p := range l {
		a, b := anyNum(r), anyNum(r)
		a[3], b[3] = a[3]>>1, b[3]>>1
		both := toNum(new(big.Int).Add(toBig(a), toBig(b)))
		if x, y := times(t, both, p), sum(t, times(t, a, p), times(t, b, p)); x != y {
			t.Errorf("%v, %v, %v: %v and %v", a, b, p, x, y)
		}
		q := l[r.Intn(len(l))]
		if x, y := times(t, a, sum(t, p, q)), sum(t, times(t, a, p), times(t, a, q)); x != y {
			t.Errorf("%v, %v, %v: %v and %v", a, p, q, x, y)
		}
	}
}

func TestP74MultiplesModuloN(t *testing.T) {
	n := bigOf(digitsN)
	for _, p := range somePoints(6) {
		if x := times(t, toNum(n), p); x != far {
			t.Errorf("N times %v: %v", p, x)
		}
		for _, k := range []api.Num{num(0), num(1), num(7), num(1 << 40), toNum(big.NewInt(-1)), numOf(digitsN, 12345)} {
			left := toNum(new(big.Int).Mod(toBig(k), n))
			over := toNum(new(big.Int).Add(toBig(left), n))
			x := times(t, k, p)
			if y := times(t, left, p); x != y {
				t.Errorf("%v, %v: %v and %v", k, p, x, y)
			}
			if y := times(t, over, p); toBig(over).Cmp(n) >= 0 && x != y {
				t.Errorf("%v, %v: %v and %v", over, p, x, y)
			}
		}
	}
}

// R1: each call ends at any point, any number and any bytes, and none panics; another program answers the same.
func FuzzR1EndsAtAnything(f *testing.F) {
	for _, p := range append(edgePoints(), notPoints()...) {
		f.Add(bytes32(p.X), bytes32(p.Y), p.Inf, bytes32(num(3)), theBytes(p))
	}
	f.Add("", "", false, "", "")
	f.Fuzz(func(t *testing.T, x, y string, inf bool, k, s string) {
		read := func(s string) api.Num { return toNum(new(big.Int).SetBytes([]byte(s))) }
		p, n := api.Point{X: read(x), Y: read(y), Inf: inf}, read(k)
		ofIs(t, s)
		ofIs(t, "\x04"+x+y)
		if curve.On(p) != isOn(p) {
			t.Errorf("On %v: %t", p, curve.On(p))
		}
		if !isOn(p) {
			refused(t, p)
			p = ofTheOther(p.X)
		}
		q := ofTheOther(n)
		sumIs(t, p, q)
		multipleIs(t, n, curve.Base(), q)
		multipleIs(t, n, p, theMultiple(n, p))
	})
}

// R5: nothing is kept from call to call, a refused one least of all, nor from calls that run at the same time.
func TestR5NothingIsKept(t *testing.T) {
	for i := range 8 {
		t.Run("", func(t *testing.T) {
			t.Parallel()
			r := rand.New(rand.NewSource(int64(i)))
			for range 10 {
				k := anyNum(r)
				p := ofTheOther(k)
				multipleIs(t, k, curve.Base(), p)
				refused(t, api.Point{X: k, Y: k})
				sumIs(t, p, theBase())
				ofIs(t, "no point")
				ofIs(t, theBytes(p))
			}
		})
	}
}
