package passkey_test

import (
	"crypto/elliptic"
	"math"
	"math/big"
	"math/rand"
	"strings"
	"testing"

	"seneschal/api"
	"seneschal/passkey"
)

// may: Check tells whether a passkey may be, and so does Assert, ahead of all else.
func may(t *testing.T, k api.Key, want bool) {
	t.Helper()
	if isKey(k) != want {
		t.Fatalf("%#v: the test itself says otherwise", k)
	}
	if want {
		same(t, "Check", passkey.Check(k), api.OK)
		asserts(t, k, "c", "o", "", "", "", api.ErrPasskeyText)
		return
	}
	same(t, "Check", passkey.Check(k), api.ErrPasskeyKey)
	asserts(t, k, "c", "o", "", "", "", api.ErrPasskeyKey)
}

// pointAt: a point of the curve whose X is the first one from x on that has one.
func pointAt(x int64) (*big.Int, *big.Int) {
	for ; ; x++ {
		n := big.NewInt(x)
		square := new(big.Int).Exp(n, big.NewInt(3), nil)
		square.Sub(square, new(big.Int).Mul(n, big.NewInt(3)))
		square.Mod(square.Add(square, elliptic.P256().Params().B), theP())
		if y := new(big.Int).ModSqrt(square, theP()); y != nil {
			return n, y
		}
	}
}

func TestP161Ids(t *testing.T) {
	k := keyOf(num(7), "id", 5)
	for size := range 70 {
		id := strings.Repeat("\xff", size)
		k.Id = base(id)
		may(t, k, size >= 1 && size <= 64)
		k.Id = base(strings.Repeat("\x00", size))
		may(t, k, size >= 1 && size <= 64)
	}
	for _, id := range []string{"aWQ", "-_8", "AA", "Zg"} {
		k.Id = id
		may(t, k, true)
	}
	long := base(strings.Repeat("x", 64))
	for _, id := range []string{
		"", "=", "A", "aWQ=", "Zg==", "Zh", "aWR", "AB", "a+Q", "a/Q", "aW Q", " aWQ", "aWQ\n", "aWQ\r\n", "aW\nQ", "a.Q", "aW\xff", "é", "\x00", "aWQaW", "id!",
		long + "A", long + "AA", long[:85], long[:85] + "=", long + "=", strings.Repeat("A", 1<<20),
	} {
		k.Id = id
		may(t, k, false)
	}
}

func TestP161Counts(t *testing.T) {
	k := keyOf(num(7), "id", 0)
	for n, want := range map[int]bool{0: true, 1: true, 1<<31 - 1: true, 1 << 31: true, 1<<32 - 1: true, 1 << 32: false, 1<<32 + 1: false, math.MaxInt: false, -1: false, -1 << 32: false, math.MinInt: false} {
		k.Count = n
		may(t, k, want)
	}
}

func TestP161Points(t *testing.T) {
	good := keyOf(num(7), "id", 5)
	may(t, good, true)
	less := octets(new(big.Int).Sub(theP(), fromOctets(good.Y)))
	may(t, api.Key{Id: good.Id, X: good.X, Y: less}, true)
	zero, top, full := strings.Repeat("\x00", 32), octets(theP()), strings.Repeat("\xff", 32)
	x, y := good.X, good.Y
	for _, p := range [][2]string{
		{"", ""}, {x, ""}, {"", y}, {x[1:], y}, {x, y[1:]}, {x[:31], y}, {x, y[:31]}, {x + "\x00", y}, {x, y + "\x00"}, {"\x00" + x, y}, {x, "\x00" + y},
		{x[:31], x[31:] + y}, {x + y[:1], y[1:]}, {x + y, ""}, {"", x + y}, {"\x04" + x, y}, {x + x, y + y},
		{zero, zero}, {zero, y}, {x, zero}, {y, x}, {x, x}, {y, y}, {top, y}, {x, top}, {top, top}, {full, y}, {x, full}, {full, full}, {"\x00", "\x00"}, {octets(big.NewInt(1)), octets(big.NewInt(1))},
		{strings.Repeat("x", 1<<20), y}, {x, strings.Repeat("x", 1<<20)},
	} {
		may(t, api.Key{Id: good.Id, X: p[0], Y: p[1], Count: 5}, false)
	}
	for i := range 32 {
		for _, c := range []byte{1, 128} {
			otherX, otherY := []byte(x), []byte(y)
			otherX[i] ^= c
			otherY[i] ^= c
			may(t, api.Key{Id: good.Id, X: string(otherX), Y: y}, isPoint(string(otherX), y))
			may(t, api.Key{Id: good.Id, X: x, Y: string(otherY)}, false)
		}
	}
}

// A number that is P or above it is none, though what is left of it be the X or the Y of a point.
func TestP161NumbersBelowP(t *testing.T) {
	for _, from := range []int64{0, 1, 5, 1000} {
		x, y := pointAt(from)
		k := api.Key{Id: "aWQ", X: octets(x), Y: octets(y)}
		may(t, k, true)
		k.X = octets(new(big.Int).Add(x, theP()))
		may(t, k, false)
	}
}

func TestP161Any(t *testing.T) {
	by := rand.New(rand.NewSource(161))
	may(t, api.Key{}, false)
	for range 60 {
		may(t, keyOf(anyPrivate(by), anyId(by), anyCount(by)), true)
	}
}
