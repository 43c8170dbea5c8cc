package sign

import (
	"slices"
	"strings"
	"testing"

	"seneschal/api"
	"seneschal/field"
	"seneschal/hash"
)

// What is a nonce, an r or a t: 32 bytes of a number from 1 to N - 1.
func TestP81Numbers(t *testing.T) {
	n := field.Modulus(modN)
	top, more := n, n
	top[0]--
	more[0]++
	for s, want := range map[string]api.Num{
		"":                          {},
		field.Bytes(api.Num{}):      {},
		field.Bytes(api.Num{1}):     {1},
		field.Bytes(api.Num{1})[1:]: {},
		"\x00" + field.Bytes(top):   {},
		field.Bytes(top):            top,
		field.Bytes(n):              {},
		field.Bytes(more):           {},
		strings.Repeat("\xff", 32):  {},
	} {
		if a, ok := number(s); a != want || ok != (want != api.Num{}) {
			t.Errorf("%x: %x, %t; want %x", s, a, ok, want)
		}
	}
}

// Nonces with which r or t is 0 are passed over. No text is known that leads there, so that they are handed in here.
func TestP81NoncesThatMakeZeros(t *testing.T) {
	k, zero := api.Num{5}, api.Num{}
	r := left(timesBase(k).X)
	// With this sum t is 0, by the private key 1.
	e := field.Neg(modN, r)
	if x, y := numbers(api.Num{1}, e, k); x != r || y != (api.Num{}) {
		t.Fatalf("%x, %x", x, y)
	}
	second := api.Num{6}
	want, errno := signature(api.Num{1}, e, slices.Values([]api.Num{second}))
	if len(want) != 64 || errno != api.OK {
		t.Fatalf("%x, %d", want, errno)
	}
	for _, l := range [][]api.Num{{k, second}, {zero, second}, {k, zero, k, second, k}, {second, k}} {
		if sig, errno := signature(api.Num{1}, e, slices.Values(l)); sig != want || errno != api.OK {
			t.Errorf("%v: %x, %d", l, sig, errno)
		}
	}
	for _, l := range [][]api.Num{{}, {k}, {zero}, {k, zero, k}} {
		if sig, errno := signature(api.Num{1}, e, slices.Values(l)); sig != "" || errno != api.ErrSignText {
			t.Errorf("%v: %x, %d", l, sig, errno)
		}
	}
}

// As many V as are looked at, and no more, are taken; fewer, when fewer are wanted.
func TestP81AtMostSoManyNonces(t *testing.T) {
	d, e := api.Num{7}, api.Num{9}
	all := slices.Collect(nonces(d, e))
	if len(all) != api.MaxNonces {
		t.Fatalf("%d", len(all))
	}
	for i := range all {
		var l []api.Num
		for k := range nonces(d, e) {
			l = append(l, k)
			if len(l) == i+1 {
				break
			}
		}
		if !slices.Equal(l, all[:i+1]) {
			t.Errorf("%d: %x", i, l)
		}
	}
	slices.SortFunc(all, func(a, b api.Num) int { return slices.Compare(a[:], b[:]) })
	if len(slices.Compact(all)) != api.MaxNonces {
		t.Error("one comes twice")
	}
}

// The sum 0 is signed, and verified, as any other one.
func TestP81TheSumZero(t *testing.T) {
	d, zero := api.Num{7}, api.Num{}
	sig, errno := signature(d, zero, nonces(d, zero))
	if errno != api.OK {
		t.Fatalf("%d", errno)
	}
	r, _ := number(sig[:sizeNum])
	x, _ := number(sig[sizeNum:])
	if !fits(timesBase(d), zero, r, x) || !fits(timesBase(d), zero, r, field.Neg(modN, x)) {
		t.Errorf("%x", sig)
	}
	if fits(timesBase(d), api.Num{1}, r, x) || fits(timesBase(api.Num{8}), zero, r, x) || fits(timesBase(d), zero, x, r) {
		t.Errorf("%x", sig)
	}
}

// 1 stands in the place of 0, as a private key.
func TestP83PrivateKeys(t *testing.T) {
	n := field.Modulus(modN)
	more, less := n, n
	more[0] += 5
	less[0]--
	for s, want := range map[string]api.Num{
		strings.Repeat("\x00", 32):  {1},
		field.Bytes(n):              {1},
		field.Bytes(more):           {5},
		field.Bytes(less):           less,
		field.Bytes(api.Num{1}):     {1},
		field.Bytes(api.Num{2}):     {2},
		hash.Mac(forPrivate, "sea"): field.Reduce(modN, hash.Mac(forPrivate, "sea")),
	} {
		if d := privateKey(s); d != want || !inRange(d) {
			t.Errorf("%x: %x; want %x", s, d, want)
		}
	}
}

// A public point is made when it is first asked for, and once, for the clones too.
func TestWayOnce(t *testing.T) {
	r := NewRing("a")
	if e := r.Turn("b"); e != api.OK {
		t.Fatal(e)
	}
	c := r.Clone()
	r.Sign("sample")
	r.Mac("sample")
	r.Verify("none", "sample", "")
	for _, k := range r.keys {
		if k.public != (api.Point{}) {
			t.Errorf("%q: made unasked", k.kid)
		}
	}
	a := r.keys[0]
	want, ok := r.Public(a.kid)
	if !ok || a.public != want || r.keys[1].public != (api.Point{}) {
		t.Errorf("%v, %t", want, ok)
	}
	// One that was made isn't made again.
	other := timesBase(api.Num{3})
	a.public = other
	for _, ring := range []*Ring{r, c} {
		if q, _ := ring.Public(a.kid); q != other {
			t.Errorf("%v: made again", q)
		}
	}
}

// R3: beside an error a ring's Sign answers no name. No ring has such a key but this one.
func TestR3NoNameBesideAnError(t *testing.T) {
	r := &Ring{[]*key{{kid: "name"}}}
	if kid, sig, e := r.Sign("sample"); kid != "" || sig != "" || e != api.ErrSignKey {
		t.Errorf("%q, %x, %d", kid, sig, e)
	}
}
