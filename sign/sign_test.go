package sign_test

import (
	"math/big"
	"math/rand"
	"strings"
	"testing"

	"seneschal/api"
	"seneschal/sign"
)

func TestP81PublicOfExamples(t *testing.T) {
	publicIs(t, big.NewInt(1), theBase())
	refused(t, num(0))
	refused(t, numOf(digitsN, 0))
	publicIs(t, bigOf(digitsD), api.Point{
		X: numOf("60fed4ba255a9d31 c961eb74c6356d68 c049b8923b61fa6c e669622e60f29fb6", 0),
		Y: numOf("7903fe1008b8bc99 a41ae9e95628bc64 f2f1b20c2d7e9f51 77a3c294d4462299", 0),
	})
}

func TestP81Public(t *testing.T) {
	for _, d := range someKeys() {
		publicIs(t, d, multiple(d))
	}
	publicIs(t, new(big.Int).Sub(theN(), big.NewInt(1)), opposite(theBase()))
}

// What is no private key is refused as it stands: what is left of it, divided by N, doesn't count.
func TestP81RefusedKeys(t *testing.T) {
	for _, d := range notKeys() {
		refused(t, d)
	}
}

func TestP81SignOfExamples(t *testing.T) {
	for s, digits := range map[string]string{
		"sample": "efd48b2aacb6a8fd 1140dd9cd45e81d6 9d2c877b56aaf991 c34d0ea84eaf3716 f7cb1c942d657c41 d436c7a1b6e29f65 f3e900dbb9aff406 4dc4ab2f843acda8",
		"test":   "f1abb023518351cd 71d881567b1ea663 ed3efcf6c5132b35 4f28d3b0b7d38367 019f4113742a2b14 bd25926b49c64915 5f267e60d3814b4c 0cc84250e46f0083",
	} {
		signs(t, bigOf(digitsD), s, string(bigOf(digits).FillBytes(make([]byte, 64))))
	}
}

func TestP81Sign(t *testing.T) {
	for _, d := range someKeys() {
		for _, s := range []string{"", "sample", "\xff\x00", highSums[0]} {
			signs(t, d, s, theSignature(d, s))
		}
	}
	for _, s := range texts() {
		signs(t, big.NewInt(1), s, theSignature(big.NewInt(1), s))
	}
}

func TestP81SignAsTheOther(t *testing.T) {
	r := rand.New(rand.NewSource(82))
	for i := range 150 {
		d, s := anyKey(r), anyText(r, i)
		signs(t, d, s, otherSignature(d, s))
	}
	for _, s := range texts() {
		signs(t, bigOf(digitsD), s, otherSignature(bigOf(digitsD), s))
	}
}

// The sum counts modulo N, in the nonces too.
func TestP81SumsAboveN(t *testing.T) {
	d := bigOf(digitsD)
	for _, s := range highSums {
		if fromText(theSum(s)).Cmp(theN()) < 0 {
			t.Fatalf("%q: below N", s)
		}
		signs(t, d, s, otherSignature(d, s))
		verifies(t, multiple(d), s, otherSignature(d, s), true)
		r, tt := withNonce(d, s, big.NewInt(12345))
		verifies(t, multiple(d), s, text(r)+text(tt), true)
	}
}

// A first V that is no nonce, and the second one is.
func TestP81TheSecondNonce(t *testing.T) {
	d := bigOf(digitsD)
	first := fromText(theV(d, lateNonce, 1)[0])
	if first.Cmp(theN()) < 0 {
		t.Fatalf("%x: below N", first)
	}
	signs(t, d, lateNonce, theSignature(d, lateNonce))
	signs(t, d, lateNonce, otherSignature(d, lateNonce))
	verifies(t, multiple(d), lateNonce, otherSignature(d, lateNonce), true)
}

func TestP81VerifyOfExamples(t *testing.T) {
	q, sig := multiple(bigOf(digitsD)), theSignature(bigOf(digitsD), "sample")
	verifies(t, q, "sample", sig, true)
	verifies(t, q, "samplf", sig, false)
	verifies(t, q, "sample", sig[:63], false)
	verifies(t, far, "sample", sig, false)
}

// By any nonce a signature fits, by another key or of another text none does.
func TestP81Verify(t *testing.T) {
	r := rand.New(rand.NewSource(83))
	keys := someKeys()
	for i, d := range keys {
		q, other, s := multiple(d), multiple(keys[(i+1)%len(keys)]), anyText(r, i)
		for _, k := range []*big.Int{big.NewInt(1), big.NewInt(2), new(big.Int).Sub(theN(), big.NewInt(1)), anyKey(r)} {
			x, y := withNonce(d, s, k)
			sig := text(x) + text(y)
			verifies(t, q, s, sig, true)
			verifies(t, other, s, sig, false)
			verifies(t, opposite(q), s, sig, false)
			verifies(t, q, s+"\x00", sig, false)
			verifies(t, q, "", sig, s == "")
		}
	}
}

func TestP81VerifyAsTheOther(t *testing.T) {
	r := rand.New(rand.NewSource(84))
	for i := range 100 {
		d, s := anyKey(r), anyText(r, i)
		sig := otherSignature(d, s)
		verifies(t, multiple(d), s, sig, true)
		// Numbers by chance, and one of the two that is right.
		for _, sig := range []string{sig[:32] + text(anyKey(r)), text(anyKey(r)) + sig[32:], anyText(r, 64)} {
			verifies(t, multiple(d), s, sig, otherVerify(multiple(d), s, sig))
		}
	}
}

// Each bit of each byte counts, of the signature and of the text.
func TestP81VerifyOfEachBit(t *testing.T) {
	d, s := bigOf(digitsD), []byte("sample")
	q, sig := multiple(d), []byte(theSignature(d, "sample"))
	for i := range sig {
		for bit := range 8 {
			sig[i] ^= 1 << bit
			verifies(t, q, "sample", string(sig), false)
			sig[i] ^= 1 << bit
		}
	}
	for i := range s {
		for bit := range 8 {
			s[i] ^= 1 << bit
			verifies(t, q, string(s), string(sig), false)
			s[i] ^= 1 << bit
		}
	}
	verifies(t, q, string(s), string(sig), true)
}

func TestP81VerifyOfEachLength(t *testing.T) {
	d := bigOf(digitsD)
	q, sig := multiple(d), theSignature(d, "sample")
	for i := range sig {
		verifies(t, q, "sample", sig[:i], false)
		verifies(t, q, "sample", sig[i+1:], false)
		verifies(t, q, "sample", sig+sig[:i+1], false)
		verifies(t, q, "sample", "\x00"+sig[:i], false)
	}
	verifies(t, q, "sample", sig+"\x00", false)
	verifies(t, q, "sample", "\x00"+sig, false)
	verifies(t, q, "sample", strings.Repeat(sig, 1000), false)
}

// Numbers that are not from 1 to N - 1, those that would be right modulo N among them.
func TestP81VerifyOfNumbersOutOfRange(t *testing.T) {
	d := bigOf(digitsD)
	q := multiple(d)
	r, tt := withNonce(d, "sample", big.NewInt(7))
	for _, a := range notKeys() {
		bad := text(toBig(a))
		verifies(t, q, "sample", bad+text(tt), false)
		verifies(t, q, "sample", text(r)+bad, false)
		for _, b := range notKeys() {
			verifies(t, q, "sample", bad+text(toBig(b)), false)
		}
	}
	// With t less than 2^256 - N: t and N more are 32 bytes yet. Of any r and t there is a key by which they fit.
	for _, small := range []int64{1, 2, 1 << 40} {
		low := big.NewInt(small)
		high := text(new(big.Int).Add(low, theN()))
		for _, point := range []api.Point{theBase(), pointOfHighX()} {
			q, r := keyOf(point, "sample", low), left(toBig(point.X))
			verifies(t, q, "sample", text(r)+text(low), true)
			verifies(t, q, "sample", text(r)+high, false)
			if over := new(big.Int).Add(r, theN()); over.BitLen() <= 256 {
				verifies(t, q, "sample", text(over)+text(low), false)
			}
		}
	}
}

// X of the sum counts modulo N.
func TestP81VerifyOfHighX(t *testing.T) {
	point := pointOfHighX()
	r := left(toBig(point.X))
	rnd := rand.New(rand.NewSource(85))
	for range 20 {
		tt := anyKey(rnd)
		q := keyOf(point, "sample", tt)
		sig := text(r) + text(tt)
		if !otherVerify(q, "sample", sig) {
			t.Fatalf("%v: %x fits nowhere", q, sig)
		}
		verifies(t, q, "sample", sig, true)
		verifies(t, q, "sample", text(toBig(point.X))+text(tt), false)
		verifies(t, q, "sample", text(new(big.Int).Add(r, big.NewInt(1)))+text(tt), false)
	}
}

// Keys that make both parts of the sum the same point, or opposites: the sum is their double, or is far out.
func TestP81VerifyOfEqualParts(t *testing.T) {
	rnd := rand.New(rand.NewSource(86))
	for _, s := range []string{"sample", "", "test"} {
		k := anyKey(rnd)
		r := left(toBig(multiple(k).X))
		d := over(theE(s), r)
		_, tt := withNonce(d, s, k)
		verifies(t, multiple(d), s, text(r)+text(tt), true)
		verifies(t, multiple(less(d)), s, text(r)+text(tt), false)
		for _, r := range []*big.Int{r, big.NewInt(1), anyKey(rnd)} {
			q := multiple(less(over(theE(s), r)))
			verifies(t, q, s, text(r)+text(tt), false)
			verifies(t, q, s, text(r)+text(big.NewInt(1)), false)
		}
	}
}

// What is no point of the curve, and the one far out, fit nothing; nor do they with numbers that may not be.
func TestP81VerifyByNoKey(t *testing.T) {
	sig := theSignature(big.NewInt(1), "sample")
	verifies(t, theBase(), "sample", sig, true)
	for _, q := range append(notPoints(), far) {
		for _, sig := range []string{sig, "", strings.Repeat("\x00", 64), text(big.NewInt(1)) + text(big.NewInt(1)), strings.Repeat("\xff", 64)} {
			verifies(t, q, "sample", sig, false)
		}
	}
	// With d 0 all hangs on the text alone: k G has r as its X, and the key would be the one far out.
	k := big.NewInt(99)
	r, tt := withNonce(new(big.Int), "sample", k)
	verifies(t, far, "sample", text(r)+text(tt), false)
	verifies(t, api.Point{}, "sample", text(r)+text(tt), false)
}

func TestP84WhatWasSignedFits(t *testing.T) {
	for _, d := range someKeys() {
		q, err := sign.Public(toNum(d))
		if err != api.OK {
			t.Fatalf("Public %x: %d", d, err)
		}
		sig, err := sign.Sign(toNum(d), "sample")
		if err != api.OK {
			t.Fatalf("Sign %x: %d", d, err)
		}
		verifies(t, q, "sample", sig, true)
		// And with N less t.
		verifies(t, q, "sample", sig[:32]+text(less(fromText(sig[32:]))), true)
		verifies(t, q, "sample", text(less(fromText(sig[:32])))+sig[32:], false)
		verifies(t, q, "sample", sig[32:]+sig[:32], false)
	}
}

// R1: each call ends at any point, any number and any bytes, and none panics; another program answers the same.
func FuzzR1EndsAtAnything(f *testing.F) {
	sig := theSignature(bigOf(digitsD), "sample")
	f.Add(text(bigOf(digitsD)), "sample", sig, "", "", false)
	f.Add(text(theN()), "sample", sig[:63], text(toBig(theBase().X)), text(toBig(theBase().Y)), false)
	f.Add(text(big.NewInt(1)), "", sig, "", "", true)
	f.Add("", "", "", "", "", false)
	f.Fuzz(func(t *testing.T, d, s, sig, x, y string, inf bool) {
		number := func(s string) api.Num { return toNum(fromText(s)) }
		sign.Verify(api.Point{X: number(x), Y: number(y), Inf: inf}, s, sig)
		key := toBig(number(d))
		if key.Sign() == 0 || key.Cmp(theN()) >= 0 {
			refused(t, toNum(key))
			return
		}
		publicIs(t, key, multiple(key))
		signs(t, key, s, otherSignature(key, s))
		verifies(t, multiple(key), s, otherSignature(key, s), true)
		verifies(t, multiple(key), s, sig, otherVerify(multiple(key), s, sig))
		if len(x) == 32 && len(y) == 32 {
			verifies(t, multiple(key), s, x+y, otherVerify(multiple(key), s, x+y))
		}
		onARing(t, d, s, sig, x, y)
	})
}

// R5: nothing is kept from call to call, a refused one least of all, nor from calls that run at the same time.
func TestR5NothingIsKept(t *testing.T) {
	for i := range 8 {
		t.Run("", func(t *testing.T) {
			t.Parallel()
			r := rand.New(rand.NewSource(int64(i)))
			for range 5 {
				d, s := anyKey(r), anyText(r, 100)
				refused(t, num(0))
				signs(t, d, s, otherSignature(d, s))
				verifies(t, far, s, otherSignature(d, s), false)
				verifies(t, multiple(d), s, otherSignature(d, s), true)
				signs(t, d, s, otherSignature(d, s))
				publicIs(t, d, multiple(d))
			}
		})
	}
}
