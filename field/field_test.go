package field_test

import (
	"math"
	"math/big"
	"math/rand"
	"strings"
	"testing"

	"seneschal/api"
	"seneschal/field"
)

func TestP61Modulus(t *testing.T) {
	for _, m := range moduli {
		is(t, "Modulus", m, api.Num{}, api.Num{}, field.Modulus(m), toNum(theModulus(m)))
		if !theModulus(m).ProbablyPrime(20) {
			t.Errorf("%d: no prime", m)
		}
	}
}

func TestP61Examples(t *testing.T) {
	p, n := field.Modulus(0), field.Modulus(1)
	is(t, "Add", 0, near(0, -1), num(5), field.Add(0, near(0, -1), num(5)), num(4))
	is(t, "Sub", 0, num(1), num(2), field.Sub(0, num(1), num(2)), near(0, -1))
	is(t, "Neg", 1, num(0), num(0), field.Neg(1, num(0)), num(0))
	is(t, "Mul", 0, near(0, -1), near(0, -1), field.Mul(0, near(0, -1), near(0, -1)), num(1))
	is(t, "Add", 0, p, num(0), field.Add(0, p, num(0)), num(0))
	is(t, "Pow", 0, num(3), num(5), field.Pow(0, num(3), num(5)), num(243))
	is(t, "Pow", 0, num(0), num(0), field.Pow(0, num(0), num(0)), num(1))
	is(t, "Pow", 1, num(2), near(1, -1), field.Pow(1, num(2), near(1, -1)), num(1))
	is(t, "Mul", 1, n, num(7), field.Mul(1, n, num(7)), num(0))
}

func TestP61EachPairOfEdges(t *testing.T) {
	for _, m := range []int{0, 1} {
		for _, a := range edges() {
			for _, b := range edges() {
				asTheOther(t, m, a, b)
			}
		}
	}
}

func TestP61NumbersByChance(t *testing.T) {
	r := rand.New(rand.NewSource(61))
	for range 20000 {
		asTheOther(t, 0, anyNum(r), anyNum(r))
		asTheOther(t, 1, anyNum(r), anyNum(r))
	}
}

// Every m but 0 is N.
func TestP61OtherModuli(t *testing.T) {
	r := rand.New(rand.NewSource(62))
	for _, m := range moduli {
		for range 100 {
			asTheOther(t, m, anyNum(r), anyNum(r))
		}
		powIs(t, m, anyNum(r), anyNum(r))
		invIs(t, m, anyNum(r))
		ofIs(t, m, bytes32(near(0, -1)))
		ofIs(t, m, bytes32(near(1, 0)))
		reduces(t, m, bytes32(near(0, 0))+"\x07")
	}
}

// Products that lie just above a modulus's multiple, and just below it.
func TestP61ProductsAboutMultiples(t *testing.T) {
	r := rand.New(rand.NewSource(63))
	for _, m := range []int{0, 1} {
		for range 300 {
			a := anyNum(r)
			inv := new(big.Int).ModInverse(toBig(a), theModulus(m))
			if inv == nil {
				continue
			}
			for d := int64(-2); d <= 2; d++ {
				b := left(m, new(big.Int).Mul(inv, big.NewInt(d)))
				asTheOther(t, m, a, b)
				is(t, "Mul", m, a, b, field.Mul(m, a, b), left(m, big.NewInt(d)))
			}
		}
	}
}

func TestP61Pow(t *testing.T) {
	r := rand.New(rand.NewSource(64))
	for _, m := range []int{0, 1} {
		for _, a := range []api.Num{num(0), num(1), num(2), near(m, -1), near(m, 0), near(m, 1), toNum(big.NewInt(-1)), anyNum(r)} {
			for _, e := range edges() {
				powIs(t, m, a, e)
			}
		}
		for _, a := range samples(60) {
			powIs(t, m, a, anyNum(r))
			powIs(t, m, a, num(0))
		}
	}
}

// Each of an exponent's bits counts, and no exponent is taken modulo anything.
func TestP61PowOfEachBit(t *testing.T) {
	for _, m := range []int{0, 1} {
		for bit := range 256 {
			e := new(big.Int).Lsh(big.NewInt(1), uint(bit))
			powIs(t, m, num(3), toNum(e))
			powIs(t, m, num(3), toNum(e.Sub(e, big.NewInt(1))))
		}
		is(t, "Pow", m, num(0), near(m, -1), field.Pow(m, num(0), near(m, -1)), num(0))
		is(t, "Pow", m, num(3), near(m, 0), field.Pow(m, num(3), near(m, 0)), num(3))
		is(t, "Pow", m, num(3), near(m, 1), field.Pow(m, num(3), near(m, 1)), num(9))
	}
}

func TestP62InvOfExamples(t *testing.T) {
	for _, m := range []int{0, 1} {
		half := new(big.Int).Rsh(new(big.Int).Add(theModulus(m), big.NewInt(1)), 1)
		for _, x := range []struct{ a, want api.Num }{{num(1), num(1)}, {num(2), toNum(half)}, {near(m, -1), near(m, -1)}, {near(m, 1), num(1)}, {near(m, 2), toNum(half)}} {
			if got, e := field.Inv(m, x.a); got != x.want || e != api.OK {
				t.Errorf("%d %x: %x, %d; want %x", m, x.a, got, e, x.want)
			}
		}
	}
}

func TestP62InvOfZero(t *testing.T) {
	for _, m := range moduli {
		for _, a := range []api.Num{num(0), near(m, 0)} {
			if got, e := field.Inv(m, a); got != num(0) || e != api.ErrFieldZero {
				t.Errorf("%d %x: %x, %d", m, a, got, e)
			}
		}
	}
	// What is 0 modulo the one is not modulo the other.
	invIs(t, 0, field.Modulus(1))
	invIs(t, 1, field.Modulus(0))
}

func TestP62InvOfEachSample(t *testing.T) {
	for _, m := range []int{0, 1} {
		for _, a := range samples(300) {
			invIs(t, m, a)
			if x, e := field.Inv(m, a); e == api.OK {
				is(t, "Mul", m, a, x, field.Mul(m, a, x), num(1))
				is(t, "Mul", m, x, a, field.Mul(m, x, a), num(1))
			}
		}
	}
}

func TestP63OfExamples(t *testing.T) {
	s := bytes32(near(1, -1))
	if a, e := field.Of(1, s); a != near(1, -1) || e != api.OK {
		t.Errorf("N - 1: %x, %d", a, e)
	}
	for _, bad := range []string{bytes32(field.Modulus(0)), s[1:], s[:31], ""} {
		if a, e := field.Of(0, bad); a != num(0) || e != api.ErrFieldText {
			t.Errorf("%x: %x, %d", bad, a, e)
		}
	}
}

func TestP63OfEachSample(t *testing.T) {
	for _, m := range []int{0, 1} {
		for _, a := range samples(2000) {
			ofIs(t, m, bytes32(a))
		}
		for d := int64(-300); d <= 300; d++ {
			ofIs(t, m, bytes32(near(m, d)))
		}
	}
}

// A number that would do, with bytes too few or too many, zeros among them.
func TestP63OfOtherLengths(t *testing.T) {
	for _, m := range []int{0, 1} {
		for n := range 100 {
			ofIs(t, m, strings.Repeat("\x00", n))
			ofIs(t, m, strings.Repeat("\x01", n))
			ofIs(t, m, strings.Repeat("\xff", n))
		}
		for _, s := range []string{bytes32(num(5)), bytes32(near(m, -1))} {
			for _, bad := range []string{"\x00" + s, s + "\x00", s[1:], s[:31], s + s, s[:16], s + strings.Repeat("\x00", 1000)} {
				ofIs(t, m, bad)
			}
		}
	}
}

// The place of each byte, on the way in and out.
func TestP63EachByte(t *testing.T) {
	for i := range 32 {
		for _, c := range []byte{1, 0x80, 0xfe} {
			b := make([]byte, 32)
			b[i] = c
			a := toNum(new(big.Int).SetBytes(b))
			if s := field.Bytes(a); s != string(b) {
				t.Errorf("%x: %x", a, s)
			}
			ofIs(t, 0, string(b))
			ofIs(t, 1, string(b))
			reduces(t, 0, string(b))
			reduces(t, 1, string(b))
		}
	}
}

// Of any number, as it is: that of a modulus and those above it too.
func TestP63Bytes(t *testing.T) {
	for _, a := range samples(2000) {
		if s := field.Bytes(a); s != bytes32(a) {
			t.Errorf("%x: %x", a, s)
		}
	}
}

func TestP63ReduceOfExamples(t *testing.T) {
	p := bytes32(field.Modulus(0))
	is(t, "Reduce", 0, num(0), num(0), field.Reduce(0, ""), num(0))
	is(t, "Reduce", 1, num(0), num(0), field.Reduce(1, ""), num(0))
	is(t, "Reduce", 0, num(0), num(0), field.Reduce(0, p+"\x07"), num(7))
	is(t, "Reduce", 0, num(0), num(0), field.Reduce(0, p), num(0))
}

func TestP63ReduceOfEachLength(t *testing.T) {
	r := rand.New(rand.NewSource(65))
	for _, m := range []int{0, 1} {
		for n := range 300 {
			for _, s := range []string{strings.Repeat("\x00", n), strings.Repeat("\xff", n), strings.Repeat("\x01", n), anyBytes(r, n), "\x80" + strings.Repeat("\x00", n), strings.Repeat("\x00", n) + "\x01"} {
				reduces(t, m, s)
			}
		}
		reduces(t, m, anyBytes(r, 1<<16+5))
	}
}

// A limb behind a number below the modulus: about the multiples, where what the highest limbs tell is most often too much.
func TestP63ReduceAboutMultiples(t *testing.T) {
	r := rand.New(rand.NewSource(66))
	times := []uint64{0, 1, 2, 3, 1<<32 - 2, 1<<32 - 1, 1 << 32, 1<<32 + 1, 1<<63 - 1, 1 << 63, 1<<64 - 1<<32, math.MaxUint64 - 2, math.MaxUint64 - 1, math.MaxUint64}
	for range 300 {
		times = append(times, r.Uint64())
	}
	for _, m := range []int{0, 1} {
		p := theModulus(m)
		for _, q := range times {
			for d := int64(-3); d <= 3; d++ {
				x := new(big.Int).Mul(p, new(big.Int).SetUint64(q))
				x.Add(x, big.NewInt(d))
				if x.Sign() >= 0 {
					reduces(t, m, theBytes(x, 40))
				}
			}
		}
	}
}

// The highest limbs are just a multiple of the modulus's highest one, or as great as it, and what stands behind them is small or great.
func TestP63ReduceAtTheEndsOfTheQuotient(t *testing.T) {
	ends := []uint64{0, 1, 1<<32 - 2, 1<<32 - 1, 1 << 32, 1<<64 - 1<<32, math.MaxUint64 - 1, math.MaxUint64}
	for _, m := range []int{0, 1} {
		top := new(big.Int).SetUint64(field.Modulus(m)[3])
		for _, q := range append(ends, 2, 3, 1<<40, 1<<63) {
			for d := int64(-2); d <= 2; d++ {
				high := new(big.Int).Mul(top, new(big.Int).SetUint64(q))
				high.Add(high, big.NewInt(d))
				if high.Sign() < 0 {
					continue
				}
				for i := range len(ends) * len(ends) * len(ends) {
					x := new(big.Int).Set(high)
					for _, limb := range []uint64{ends[i%8], ends[i/8%8], ends[i/64]} {
						x.Or(x.Lsh(x, 64), new(big.Int).SetUint64(limb))
					}
					reduces(t, m, theBytes(x, 40))
				}
			}
		}
	}
}

// What is answered is below the modulus, of whatever is handed in.
func TestP64Below(t *testing.T) {
	r := rand.New(rand.NewSource(67))
	for _, m := range []int{0, 1} {
		for _, a := range samples(200) {
			b := anyNum(r)
			inv, _ := field.Inv(m, a)
			of, _ := field.Of(m, bytes32(a))
			for i, x := range []api.Num{field.Add(m, a, b), field.Sub(m, a, b), field.Mul(m, a, b), field.Neg(m, a), field.Pow(m, a, b), inv, of, field.Reduce(m, bytes32(a))} {
				if toBig(x).Cmp(theModulus(m)) >= 0 {
					t.Errorf("answer %d of %d %x %x: %x", i, m, a, b, x)
				}
			}
		}
	}
}

func TestP64Field(t *testing.T) {
	r := rand.New(rand.NewSource(68))
	for i := range 6000 {
		m, a, b, c := i%2, anyNum(r), anyNum(r), anyNum(r)
		is(t, "a + b", m, a, b, field.Add(m, a, b), field.Add(m, b, a))
		is(t, "a b", m, a, b, field.Mul(m, a, b), field.Mul(m, b, a))
		is(t, "(a + b) + c", m, a, b, field.Add(m, field.Add(m, a, b), c), field.Add(m, a, field.Add(m, b, c)))
		is(t, "(a b) c", m, a, b, field.Mul(m, field.Mul(m, a, b), c), field.Mul(m, a, field.Mul(m, b, c)))
		is(t, "a (b + c)", m, a, b, field.Mul(m, a, field.Add(m, b, c)), field.Add(m, field.Mul(m, a, b), field.Mul(m, a, c)))
		is(t, "a - b", m, a, b, field.Sub(m, a, b), field.Add(m, a, field.Neg(m, b)))
		is(t, "a - a", m, a, b, field.Sub(m, a, a), num(0))
		is(t, "a 1", m, a, b, field.Mul(m, a, num(1)), field.Add(m, a, num(0)))
	}
}

func TestP64InverseAndFermat(t *testing.T) {
	for _, m := range []int{0, 1} {
		p := field.Modulus(m)
		for _, a := range samples(100) {
			same := field.Add(m, a, num(0))
			is(t, "a to the modulus", m, a, p, field.Pow(m, a, p), same)
			x, e := field.Inv(m, a)
			if (e == api.OK) != (same != num(0)) {
				t.Errorf("%d %x: %d", m, a, e)
			}
			if e == api.OK {
				is(t, "a / a", m, a, x, field.Mul(m, a, x), num(1))
			}
		}
	}
}

func TestP64PowersByTheirExponents(t *testing.T) {
	r := rand.New(rand.NewSource(69))
	for i := range 200 {
		m, a, e, f := i%2, anyNum(r), api.Num{r.Uint64(), r.Uint64(), r.Uint64()}, api.Num{r.Uint64(), r.Uint64(), r.Uint64()}
		sum := toNum(new(big.Int).Add(toBig(e), toBig(f)))
		is(t, "Pow of a sum", m, a, sum, field.Pow(m, a, sum), field.Mul(m, field.Pow(m, a, e), field.Pow(m, a, f)))
	}
}

func TestP64OfReadsBytes(t *testing.T) {
	for _, m := range []int{0, 1} {
		for _, a := range samples(2000) {
			x, e := field.Of(m, field.Bytes(a))
			if same := field.Add(m, a, num(0)) == a; same != (e == api.OK) || same && x != a {
				t.Errorf("%d %x: %x, %d", m, a, x, e)
			}
			if e == api.OK && field.Bytes(x) != field.Bytes(a) {
				t.Errorf("%d %x: %x", m, a, field.Bytes(x))
			}
		}
	}
}

func TestP64ReduceOfBytesBehindBytes(t *testing.T) {
	r := rand.New(rand.NewSource(60))
	for _, m := range []int{0, 1} {
		for i := range 60 {
			for j := range 60 {
				s, u := anyBytes(r, i), anyBytes(r, j)
				power := field.Pow(m, num(256), num(uint64(j)))
				want := field.Add(m, field.Mul(m, field.Reduce(m, s), power), field.Reduce(m, u))
				is(t, "Reduce", m, num(uint64(i)), num(uint64(j)), field.Reduce(m, s+u), want)
			}
		}
	}
}

// R1: each call ends at any number and any bytes, and none panics; another program answers the same.
func FuzzR1EndsAtAnything(f *testing.F) {
	r := rand.New(rand.NewSource(6))
	for _, a := range edges() {
		f.Add(r.Intn(2), bytes32(a)+bytes32(anyNum(r)))
		f.Add(r.Intn(2), bytes32(a))
	}
	f.Add(0, "")
	f.Add(-1, "\x00")
	f.Add(math.MinInt, strings.Repeat("\xff", 64))
	f.Fuzz(func(t *testing.T, m int, s string) {
		half := len(s) / 2
		a, b := toNum(new(big.Int).SetBytes([]byte(s[:half]))), toNum(new(big.Int).SetBytes([]byte(s[half:])))
		asTheOther(t, m, a, b)
		powIs(t, m, a, b)
		invIs(t, m, a)
		ofIs(t, m, s)
		ofIs(t, m, field.Bytes(b))
		reduces(t, m, s)
	})
}

// R5: nothing is kept from call to call, a refused one least of all, nor from calls that run at the same time.
func TestR5NothingIsKept(t *testing.T) {
	for i := range 8 {
		t.Run("", func(t *testing.T) {
			t.Parallel()
			r := rand.New(rand.NewSource(int64(i)))
			for range 50 {
				asTheOther(t, i%2, anyNum(r), anyNum(r))
				invIs(t, i%2, field.Modulus(i%2))
				invIs(t, i%2, num(7))
				ofIs(t, i%2, "no number")
				ofIs(t, i%2, bytes32(num(7)))
				reduces(t, i%2, anyBytes(r, 50))
				powIs(t, i%2, num(7), num(9))
			}
		})
	}
}
