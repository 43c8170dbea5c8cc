package sign_test

import (
	"crypto"
	"crypto/ecdsa"
	"crypto/elliptic"
	"crypto/hmac"
	"crypto/sha256"
	"encoding/asn1"
	"math/big"
	"math/rand"
	"strings"
	"testing"

	"seneschal/api"
	"seneschal/sign"
)

// What the chapters say of the moduli, the curve and its base point.
const (
	digitsP  = "ffffffff00000001 0000000000000000 00000000ffffffff ffffffffffffffff"
	digitsN  = "ffffffff00000000 ffffffffffffffff bce6faada7179e84 f3b9cac2fc632551"
	digitsB  = "5ac635d8aa3a93e7 b3ebbd55769886bc 651d06b0cc53b0f6 3bce3c3e27d2604b"
	digitsGX = "6b17d1f2e12c4247 f8bce6e563a440f2 77037d812deb33a0 f4a13945d898c296"
	digitsGY = "4fe342e2fe1a7f9b 8ee7eb4a7c0f9e16 2bce33576b315ece cbb6406837bf51f5"
)

// The key of RFC 6979's examples, which is the chapter's, too.
const digitsD = "c9afa9d845ba7516 6b5c215767b1d693 4e50c3db36e89b12 7b8a622b120f6721"

// Texts whose sum is not below N.
var highSums = []string{"3610672442", "6442124411", "7428135813"}

// lateNonce: a text of which, by digitsD, the first V is not below N.
const lateNonce = "6934507804"

// far: the point that is far out.
var far = api.Point{Inf: true}

// theBase: G, by the chapter's digits.
func theBase() api.Point { return api.Point{X: numOf(digitsGX, 0), Y: numOf(digitsGY, 0)} }

// bigOf: a number written in base sixteen, with blanks.
func bigOf(digits string) *big.Int {
	x, ok := new(big.Int).SetString(strings.ReplaceAll(digits, " ", ""), 16)
	if !ok {
		panic(digits)
	}
	return x
}

// theN and theP: the moduli.
func theN() *big.Int { return bigOf(digitsN) }
func theP() *big.Int { return bigOf(digitsP) }

func toBig(a api.Num) *big.Int {
	x := new(big.Int)
	for i := len(a) - 1; i >= 0; i-- {
		x.Lsh(x, 64)
		x.Or(x, new(big.Int).SetUint64(a[i]))
	}
	return x
}

// toNum: the lowest 256 bits of a number.
func toNum(x *big.Int) api.Num {
	var a api.Num
	low := new(big.Int).Mod(x, new(big.Int).Lsh(big.NewInt(1), 256))
	for i := range a {
		a[i] = new(big.Int).Rsh(low, uint(64*i)).Uint64()
	}
	return a
}

// numOf: one written in base sixteen, and more.
func numOf(digits string, more int64) api.Num {
	return toNum(new(big.Int).Add(bigOf(digits), big.NewInt(more)))
}

// num: a number of 64 bits.
func num(a uint64) api.Num { return api.Num{a} }

// text: the 32 bytes of a number.
func text(x *big.Int) string { return string(x.FillBytes(make([]byte, 32))) }

// fromText: bytes as a number, the highest first.
func fromText(s string) *big.Int { return new(big.Int).SetBytes([]byte(s)) }

// left, less, plus, times and over: modulo N.
func left(a *big.Int) *big.Int     { return new(big.Int).Mod(a, theN()) }
func less(a *big.Int) *big.Int     { return left(new(big.Int).Neg(a)) }
func plus(a, b *big.Int) *big.Int  { return left(new(big.Int).Add(a, b)) }
func times(a, b *big.Int) *big.Int { return left(new(big.Int).Mul(a, b)) }
func over(a, b *big.Int) *big.Int  { return times(a, new(big.Int).ModInverse(b, theN())) }

// theSum and theMac: as another program has them.
func theSum(s string) string {
	sum := sha256.Sum256([]byte(s))
	return string(sum[:])
}

func theMac(key, s string) string {
	m := hmac.New(sha256.New, []byte(key))
	m.Write([]byte(s))
	return string(m.Sum(nil))
}

// theE: the sum of a text, as a number, modulo N.
func theE(s string) *big.Int { return left(fromText(theSum(s))) }

// multiple: k G, as another program has it.
func multiple(k *big.Int) api.Point {
	if left(k).Sign() == 0 {
		return far
	}
	x, y := elliptic.P256().ScalarBaseMult(left(k).Bytes())
	return api.Point{X: toNum(x), Y: toNum(y)}
}

// multipleOf: k q, and sumOf: q and r, of points that are not far out, whose sum is not so either, as another program has them.
func multipleOf(k *big.Int, q api.Point) api.Point {
	x, y := elliptic.P256().ScalarMult(toBig(q.X), toBig(q.Y), k.Bytes())
	return api.Point{X: toNum(x), Y: toNum(y)}
}

func sumOf(q, r api.Point) api.Point {
	x, y := elliptic.P256().Add(toBig(q.X), toBig(q.Y), toBig(r.X), toBig(r.Y))
	return api.Point{X: toNum(x), Y: toNum(y)}
}

// opposite: of a point that is not far out.
func opposite(q api.Point) api.Point {
	return api.Point{X: q.X, Y: toNum(new(big.Int).Sub(theP(), toBig(q.Y)))}
}

// keyOf: the public key by which t, and X of a point, modulo N, are a signature that leads to that point.
func keyOf(point api.Point, s string, t *big.Int) api.Point {
	r := left(toBig(point.X))
	return multipleOf(over(big.NewInt(1), r), sumOf(multipleOf(t, point), multiple(less(theE(s)))))
}

// pointOfHighX: the first point whose X is above N.
func pointOfHighX() api.Point {
	for more := int64(1); ; more++ {
		x := toBig(numOf(digitsN, more))
		square := new(big.Int).Exp(x, big.NewInt(3), nil)
		square.Sub(square, new(big.Int).Mul(x, big.NewInt(3)))
		square.Mod(square.Add(square, bigOf(digitsB)), theP())
		if y := new(big.Int).ModSqrt(square, theP()); y != nil {
			return api.Point{X: toNum(x), Y: toNum(y)}
		}
	}
}

// theV: the V that are looked at for d and s, as the chapter says them, the first one first.
func theV(d *big.Int, s string, count int) []string {
	x, h := text(d), text(theE(s))
	v, k := strings.Repeat("\x01", 32), strings.Repeat("\x00", 32)
	k = theMac(k, v+"\x00"+x+h)
	v = theMac(k, v)
	k = theMac(k, v+"\x01"+x+h)
	v = theMac(k, v)
	var l []string
	for range count {
		v = theMac(k, v)
		l = append(l, v)
		k = theMac(k, v+"\x00")
		v = theMac(k, v)
	}
	return l
}

// withNonce: r and t, as the chapter says them, by any nonce.
func withNonce(d *big.Int, s string, k *big.Int) (r, t *big.Int) {
	r = left(toBig(multiple(k).X))
	return r, over(plus(theE(s), times(r, d)), k)
}

// theSignature: as the chapter says it.
func theSignature(d *big.Int, s string) string {
	for _, v := range theV(d, s, 16) {
		k := fromText(v)
		if k.Sign() == 0 || k.Cmp(theN()) >= 0 {
			continue
		}
		r, t := withNonce(d, s, k)
		if r.Sign() != 0 && t.Sign() != 0 {
			return text(r) + text(t)
		}
	}
	panic("no nonce")
}

// otherKey: another program's.
func otherKey(d *big.Int) *ecdsa.PrivateKey {
	key, err := ecdsa.ParseRawPrivateKey(elliptic.P256(), []byte(text(d)))
	if err != nil {
		panic(err)
	}
	return key
}

// otherSignature: the one that another program makes, with nonces after RFC 6979, too.
func otherSignature(d *big.Int, s string) string {
	b, err := otherKey(d).Sign(nil, []byte(theSum(s)), crypto.SHA256)
	if err != nil {
		panic(err)
	}
	var two struct{ R, T *big.Int }
	if _, err := asn1.Unmarshal(b, &two); err != nil {
		panic(err)
	}
	return text(two.R) + text(two.T)
}

// otherVerify: does it fit, as another program has it? q is a point of the curve, not far out.
func otherVerify(q api.Point, s, sig string) bool {
	key, err := ecdsa.ParseUncompressedPublicKey(elliptic.P256(), []byte("\x04"+text(toBig(q.X))+text(toBig(q.Y))))
	if err != nil {
		panic(err)
	}
	if len(sig) != 64 {
		return false
	}
	return ecdsa.Verify(key, []byte(theSum(s)), fromText(sig[:32]), fromText(sig[32:]))
}

// anyKey: a private key by chance.
func anyKey(r *rand.Rand) *big.Int {
	return new(big.Int).Add(new(big.Int).Rand(r, new(big.Int).Sub(theN(), big.NewInt(1))), big.NewInt(1))
}

// anyText: bytes by chance.
func anyText(r *rand.Rand, size int) string {
	b := make([]byte, size)
	r.Read(b)
	return string(b)
}

// someKeys: those at the ends, about powers of two, and some by chance, always the same ones.
func someKeys() []*big.Int {
	l := []*big.Int{bigOf(digitsD)}
	for i := range int64(4) {
		l = append(l, big.NewInt(1+i), new(big.Int).Sub(theN(), big.NewInt(1+i)))
	}
	for _, bit := range []uint{31, 63, 64, 127, 128, 191, 192, 223, 224, 255} {
		l = append(l, new(big.Int).Lsh(big.NewInt(1), bit))
	}
	half := new(big.Int).Rsh(theN(), 1)
	l = append(l, half, new(big.Int).Add(half, big.NewInt(1)))
	r := rand.New(rand.NewSource(8))
	for range 30 {
		l = append(l, anyKey(r))
	}
	return l
}

// notKeys: numbers that are no private key.
func notKeys() []api.Num {
	l := []api.Num{{}, numOf(digitsN, 0), numOf(digitsN, 1), numOf(digitsN, 2), numOf(digitsP, -1), numOf(digitsP, 0), numOf(digitsP, 1), {0, 0, 0, 1<<64 - 1}}
	for i := range int64(3) {
		l = append(l, toNum(big.NewInt(-1-i)))
	}
	// Not the third limb: it is full.
	for _, i := range []int{0, 1, 3} {
		above := numOf(digitsN, 0)
		above[i]++
		l = append(l, above)
	}
	return l
}

// notPoints: what is no point of the curve.
func notPoints() []api.Point {
	g, top := theBase(), numOf(digitsP, 0)
	l := []api.Point{
		{}, {X: num(1), Y: num(1)}, {X: g.Y, Y: g.X}, {X: g.X}, {Y: g.Y}, {X: top, Y: top}, {X: toNum(big.NewInt(-1)), Y: toNum(big.NewInt(-1))},
		{Inf: true, X: num(1)}, {Inf: true, Y: num(1)}, {Inf: true, X: g.X, Y: g.Y},
	}
	for i := range 4 {
		x, y := g, g
		x.X[i] ^= 1
		y.Y[i] ^= 1
		l = append(l, x, y)
	}
	return l
}

// texts: of the lengths about a block of the sum, and of all kinds.
func texts() []string {
	l := append([]string{"", "\x00", "sample", "test", "é", "\xff\xfe", strings.Repeat("long", 20000)}, highSums...)
	r := rand.New(rand.NewSource(81))
	for _, size := range []int{1, 31, 32, 33, 55, 56, 63, 64, 65, 119, 120, 128} {
		l = append(l, anyText(r, size))
	}
	return l
}

// signs: Sign answers that.
func signs(t *testing.T, d *big.Int, s, want string) {
	t.Helper()
	if sig, err := sign.Sign(toNum(d), s); sig != want || err != api.OK {
		t.Errorf("Sign %x, %.40q: %x, %d; want %x", d, s, sig, err, want)
	}
}

// verifies: Verify answers want.
func verifies(t *testing.T, q api.Point, s, sig string, want bool) {
	t.Helper()
	if sign.Verify(q, s, sig) != want {
		t.Errorf("Verify %v, %.40q, %.160x (%d bytes): %t", q, s, sig, len(sig), !want)
	}
}

// publicIs: Public answers that.
func publicIs(t *testing.T, d *big.Int, want api.Point) {
	t.Helper()
	if q, err := sign.Public(toNum(d)); q != want || err != api.OK {
		t.Errorf("Public %x: %v, %d; want %v", d, q, err, want)
	}
}

// refused: Public and Sign answer the error alone.
func refused(t *testing.T, d api.Num) {
	t.Helper()
	if q, err := sign.Public(d); q != (api.Point{}) || err != api.ErrSignKey {
		t.Errorf("Public %x: %v, %d", d, q, err)
	}
	for _, s := range []string{"", "sample"} {
		if sig, err := sign.Sign(d, s); sig != "" || err != api.ErrSignKey {
			t.Errorf("Sign %x, %q: %x, %d", d, s, sig, err)
		}
	}
}
