package field_test

import (
	"math"
	"math/big"
	"math/rand"
	"strings"
	"testing"

	"seneschal/api"
	"seneschal/field"
)

// What the chapter says of the moduli.
const (
	digitsP = "ffffffff00000001 0000000000000000 00000000ffffffff ffffffffffffffff"
	digitsN = "ffffffff00000000 ffffffffffffffff bce6faada7179e84 f3b9cac2fc632551"
)

// moduli: 0 is P, every other one N.
var moduli = []int{0, 1, 2, -1, 256, 1 << 32, math.MaxInt, math.MinInt}

// bigOf: a number written in base sixteen, with blanks.
func bigOf(digits string) *big.Int {
	x, ok := new(big.Int).SetString(strings.ReplaceAll(digits, " ", ""), 16)
	if !ok {
		panic(digits)
	}
	return x
}

// theModulus: another program's.
func theModulus(m int) *big.Int {
	if m == 0 {
		return bigOf(digitsP)
	}
	return bigOf(digitsN)
}

func toBig(a api.Num) *big.Int {
	x := new(big.Int)
	for i := len(a) - 1; i >= 0; i-- {
		x.Lsh(x, 64)
		x.Or(x, new(big.Int).SetUint64(a[i]))
	}
	return x
}

// toNum: the lowest 256 bits of a number.
func toNum(x *big.Int) api.Num {
	var a api.Num
	low := new(big.Int).Mod(x, new(big.Int).Lsh(big.NewInt(1), 256))
	for i := range a {
		a[i] = new(big.Int).Rsh(low, uint(64*i)).Uint64()
	}
	return a
}

// left: what is left of x, divided by the modulus.
func left(m int, x *big.Int) api.Num { return toNum(new(big.Int).Mod(x, theModulus(m))) }

// num: a number of 64 bits.
func num(n uint64) api.Num { return api.Num{n} }

// near: a modulus and n.
func near(m int, n int64) api.Num { return toNum(new(big.Int).Add(theModulus(m), big.NewInt(n))) }

// anyNum: one by chance, whose limbs are often at an end.
func anyNum(r *rand.Rand) api.Num {
	var a api.Num
	for i := range a {
		switch r.Intn(6) {
		case 0:
			a[i] = 0
		case 1:
			a[i] = math.MaxUint64
		case 2:
			a[i] = 0xffffffff00000000 + uint64(r.Intn(3)) - 1
		default:
			a[i] = r.Uint64()
		}
	}
	return a
}

// edges: numbers about both moduli and their halves, about powers of two, and those of all limbs at an end.
func edges() []api.Num {
	var l []api.Num
	for _, m := range []int{0, 1} {
		half := new(big.Int).Rsh(theModulus(m), 1)
		for d := int64(-3); d <= 3; d++ {
			l = append(l, near(m, d), toNum(new(big.Int).Add(half, big.NewInt(d))))
		}
	}
	for d := int64(0); d <= 3; d++ {
		l = append(l, num(uint64(d)), toNum(big.NewInt(-1-d)))
	}
	for _, bit := range []uint{31, 32, 63, 64, 65, 95, 96, 127, 128, 191, 192, 223, 224, 255} {
		x := new(big.Int).Lsh(big.NewInt(1), bit)
		l = append(l, toNum(x), toNum(new(big.Int).Sub(x, big.NewInt(1))))
	}
	for ends := range 16 {
		var a api.Num
		for i := range a {
			a[i] = -uint64(ends >> i & 1)
		}
		l = append(l, a)
	}
	return l
}

// samples: the edges, and some by chance, always the same ones.
func samples(n int) []api.Num {
	l := edges()
	r := rand.New(rand.NewSource(6))
	for range n {
		l = append(l, anyNum(r))
	}
	return l
}

// anyBytes: of a length, by chance.
func anyBytes(r *rand.Rand, n int) string {
	b := make([]byte, n)
	r.Read(b)
	return string(b)
}

// theBytes: a number's, so many of them.
func theBytes(x *big.Int, n int) string { return string(x.FillBytes(make([]byte, n))) }

// bytes32: those of a number, as it is.
func bytes32(a api.Num) string { return theBytes(toBig(a), 32) }

// is: an answer is what it is to be.
func is(t *testing.T, call string, m int, a, b, got, want api.Num) {
	t.Helper()
	if got != want {
		t.Errorf("%s %d %x %x: %x; want %x", call, m, a, b, got, want)
	}
}

// asTheOther: sum, difference, product and opposite are another program's.
func asTheOther(t *testing.T, m int, a, b api.Num) {
	t.Helper()
	x, y, z := toBig(a), toBig(b), new(big.Int)
	is(t, "Add", m, a, b, field.Add(m, a, b), left(m, z.Add(x, y)))
	is(t, "Sub", m, a, b, field.Sub(m, a, b), left(m, z.Sub(x, y)))
	is(t, "Mul", m, a, b, field.Mul(m, a, b), left(m, z.Mul(x, y)))
	is(t, "Neg", m, a, b, field.Neg(m, a), left(m, z.Neg(x)))
}

// powIs: the power is another program's.
func powIs(t *testing.T, m int, a, e api.Num) {
	t.Helper()
	want := new(big.Int).Exp(toBig(a), toBig(e), theModulus(m))
	is(t, "Pow", m, a, e, field.Pow(m, a, e), toNum(want))
}

// invIs: the inverse is another program's, or there is none.
func invIs(t *testing.T, m int, a api.Num) {
	t.Helper()
	want, e := api.Num{}, api.ErrFieldZero
	if x := new(big.Int).ModInverse(toBig(a), theModulus(m)); x != nil {
		want, e = toNum(x), api.OK
	}
	if got, err := field.Inv(m, a); got != want || err != e {
		t.Errorf("Inv %d %x: %x, %d; want %x, %d", m, a, got, err, want, e)
	}
}

// ofIs: Of answers the number that s is, or nothing but the error.
func ofIs(t *testing.T, m int, s string) {
	t.Helper()
	want, e := api.Num{}, api.ErrFieldText
	if x := new(big.Int).SetBytes([]byte(s)); len(s) == 32 && x.Cmp(theModulus(m)) < 0 {
		want, e = toNum(x), api.OK
	}
	if got, err := field.Of(m, s); got != want || err != e {
		t.Errorf("Of %d %.80x (%d bytes): %x, %d; want %x, %d", m, s, len(s), got, err, want, e)
	}
}

// reduces: Reduce answers what another program does.
func reduces(t *testing.T, m int, s string) {
	t.Helper()
	if got, want := field.Reduce(m, s), left(m, new(big.Int).SetBytes([]byte(s))); got != want {
		t.Errorf("Reduce %d %.160x (%d bytes): %x; want %x", m, s, len(s), got, want)
	}
}
