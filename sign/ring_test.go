package sign_test

import (
	"encoding/base64"
	"math/big"
	"slices"
	"strconv"
	"strings"
	"sync"
	"testing"
	"unsafe"

	"seneschal/api"
	"seneschal/sign"
)

// theKid, theMacKey and thePrivate: what a seed makes, as the chapter says it.
func theKid(seed string) string {
	return base64.RawURLEncoding.EncodeToString([]byte(theMac("kid", seed)[:9]))
}

func theMacKey(seed string) string { return theMac("mac", seed) }

func thePrivate(seed string) *big.Int { return left(fromText(theMac("key", seed))) }

// theKids: the names of seeds.
func theKids(seeds []string) []string {
	var l []string
	for _, seed := range seeds {
		l = append(l, theKid(seed))
	}
	return l
}

// someSeeds: as many as a ring takes, of all kinds, and one more that is in none.
func someSeeds() (l []string, other string) {
	return []string{"a", "", "\x00", "b", "é", "\xff\xfe", strings.Repeat("s", 64), strings.Repeat("long", 20000)}, "other"
}

// ringOf: a ring with the keys of those seeds.
func ringOf(t *testing.T, seeds ...string) *sign.Ring {
	t.Helper()
	r := sign.NewRing(seeds[0])
	for _, seed := range seeds[1:] {
		turns(t, r, seed, api.OK)
	}
	return r
}

// turns: Turn answers want.
func turns(t *testing.T, r *sign.Ring, seed string, want api.Errno) {
	t.Helper()
	if err := r.Turn(seed); err != want {
		t.Errorf("Turn %.40q: %d; want %d", seed, err, want)
	}
}

// vouches and verifiesBy: Vouch, and Verify of a ring, answer want.
func vouches(t *testing.T, r *sign.Ring, kid, s, mac string, want bool) {
	t.Helper()
	if r.Vouch(kid, s, mac) != want {
		t.Errorf("Vouch %q, %.40q, %.80x: %t", kid, s, mac, !want)
	}
}

func verifiesBy(t *testing.T, r *sign.Ring, kid, s, sig string, want bool) {
	t.Helper()
	if r.Verify(kid, s, sig) != want {
		t.Errorf("Verify %q, %.40q, %.160x: %t", kid, s, sig, !want)
	}
}

// has: all that a ring tells is what the chapter says of those seeds.
func has(t *testing.T, r *sign.Ring, seeds ...string) {
	t.Helper()
	if l := r.Seeds(); !slices.Equal(l, seeds) {
		t.Errorf("Seeds: %.200q; want %.200q", l, seeds)
	}
	if l := r.Kids(); !slices.Equal(l, theKids(seeds)) {
		t.Errorf("Kids: %q; want %q", l, theKids(seeds))
	}
	newest := seeds[len(seeds)-1]
	if kid, mac := r.Mac("sample"); kid != theKid(newest) || mac != theMac(theMacKey(newest), "sample") {
		t.Errorf("Mac: %q, %x", kid, mac)
	}
	if kid, sig, err := r.Sign("sample"); kid != theKid(newest) || sig != theSignature(thePrivate(newest), "sample") || err != api.OK {
		t.Errorf("Sign: %q, %x, %d", kid, sig, err)
	}
	for _, seed := range seeds {
		hasKey(t, r, seed)
	}
}

// hasKey and hasNoKey: what a ring vouches for, verifies and tells by a seed's name.
func hasKey(t *testing.T, r *sign.Ring, seed string) {
	t.Helper()
	kid := theKid(seed)
	vouches(t, r, kid, "sample", theMac(theMacKey(seed), "sample"), true)
	verifiesBy(t, r, kid, "sample", theSignature(thePrivate(seed), "sample"), true)
	if q, ok := r.Public(kid); q != multiple(thePrivate(seed)) || !ok {
		t.Errorf("Public %q: %v, %t", kid, q, ok)
	}
}

func hasNoKey(t *testing.T, r *sign.Ring, seed string) {
	t.Helper()
	kid := theKid(seed)
	vouches(t, r, kid, "sample", theMac(theMacKey(seed), "sample"), false)
	verifiesBy(t, r, kid, "sample", theSignature(thePrivate(seed), "sample"), false)
	if q, ok := r.Public(kid); q != (api.Point{}) || ok {
		t.Errorf("Public %q: %v, %t", kid, q, ok)
	}
}

func TestP82Examples(t *testing.T) {
	r := sign.NewRing("a")
	turns(t, r, "a", api.ErrSignKey)
	turns(t, r, "b", api.OK)
	if l := r.Kids(); len(l) != 2 || l[0] == l[1] {
		t.Errorf("%q", l)
	}
}

func TestP82NewRing(t *testing.T) {
	seeds, other := someSeeds()
	for _, seed := range seeds {
		r := sign.NewRing(seed)
		has(t, r, seed)
		hasNoKey(t, r, other)
	}
}

func TestP82Turn(t *testing.T) {
	seeds, other := someSeeds()
	if len(seeds) != api.MaxRing {
		t.Fatal(len(seeds))
	}
	r := sign.NewRing(seeds[0])
	for i, seed := range seeds[1:] {
		hasNoKey(t, r, seed)
		turns(t, r, seed, api.OK)
		has(t, r, seeds[:i+2]...)
		hasNoKey(t, r, other)
	}
}

// A key that is there already is refused, wherever it stands and however many there are; one too many is; neither changes anything.
func TestP82TurnRefused(t *testing.T) {
	seeds, other := someSeeds()
	for i := range seeds {
		r := ringOf(t, seeds[:i+1]...)
		for _, seed := range seeds[:i+1] {
			turns(t, r, seed, api.ErrSignKey)
		}
		if i == api.MaxRing-1 {
			turns(t, r, other, api.ErrSignFull)
			turns(t, r, other, api.ErrSignFull)
		}
		has(t, r, seeds[:i+1]...)
		hasNoKey(t, r, other)
	}
}

// Seeds that are nearly the same are seeds of their own; those that are keys of more than a block are no macs' keys here.
func TestP82TurnOfNearSeeds(t *testing.T) {
	long := strings.Repeat("k", 65)
	seeds := []string{"a", "A", "a\x00", "\x00a", "aa", long, theSum(long), long + "\x00"}
	has(t, ringOf(t, seeds...), seeds...)
}

func TestP83Mac(t *testing.T) {
	r := ringOf(t, "a", "b")
	for _, s := range texts() {
		kid, mac := r.Mac(s)
		if kid != theKid("b") || mac != theMac(theMacKey("b"), s) {
			t.Errorf("%.40q: %q, %x", s, kid, mac)
		}
		vouches(t, r, kid, s, mac, true)
	}
}

func TestP83Vouch(t *testing.T) {
	r := ringOf(t, "a", "b")
	for _, seed := range []string{"a", "b"} {
		kid, mac := theKid(seed), theMac(theMacKey(seed), "sample")
		vouches(t, r, kid, "sample", mac, true)
		vouches(t, r, kid, "samplf", mac, false)
		vouches(t, r, kid, "", mac, false)
		vouches(t, r, kid, "sample", "", false)
		vouches(t, r, kid, "sample", mac+"\x00", false)
		vouches(t, r, kid, "sample", "\x00"+mac, false)
		vouches(t, r, kid, "sample", mac+mac, false)
		// What a mac of the seed itself, or by another of its keys, would be.
		for _, key := range []string{seed, theMac("kid", seed), theMac("key", seed), kid, "mac", ""} {
			vouches(t, r, kid, "sample", theMac(key, "sample"), false)
		}
		for i := range mac {
			vouches(t, r, kid, "sample", mac[:i], false)
			b := []byte(mac)
			b[i] ^= 1
			vouches(t, r, kid, "sample", string(b), false)
		}
		for _, other := range notKids(kid) {
			vouches(t, r, other, "sample", mac, false)
		}
	}
	vouches(t, r, theKid("a"), "sample", theMac(theMacKey("b"), "sample"), false)
	vouches(t, r, theKid("b"), "sample", theMac(theMacKey("a"), "sample"), false)
}

// notKids: names that are none, near one that is.
func notKids(kid string) []string {
	return []string{"", "a", "\x00", kid[:len(kid)-1], kid[1:], kid + "=", kid + "A", " " + kid, kid + kid, strings.ToUpper(kid) + "x", theKid("other"), theMac("kid", "a")[:9]}
}

func TestP83Sign(t *testing.T) {
	r := ringOf(t, "a", "b")
	for _, s := range texts() {
		kid, sig, err := r.Sign(s)
		if kid != theKid("b") || sig != theSignature(thePrivate("b"), s) || err != api.OK {
			t.Errorf("%.40q: %q, %x, %d", s, kid, sig, err)
		}
		verifiesBy(t, r, kid, s, sig, true)
	}
}

func TestP83Verify(t *testing.T) {
	r := ringOf(t, "a", "b")
	for _, seed := range []string{"a", "b"} {
		kid, sig := theKid(seed), theSignature(thePrivate(seed), "sample")
		verifiesBy(t, r, kid, "sample", sig, true)
		verifiesBy(t, r, kid, "sample", sig[:32]+text(less(fromText(sig[32:]))), true)
		verifiesBy(t, r, kid, "samplf", sig, false)
		verifiesBy(t, r, kid, "sample", "", false)
		verifiesBy(t, r, kid, "sample", sig[:63], false)
		verifiesBy(t, r, kid, "sample", sig+"\x00", false)
		verifiesBy(t, r, kid, "sample", theMac(theMacKey(seed), "sample"), false)
		for _, other := range notKids(kid) {
			verifiesBy(t, r, other, "sample", sig, false)
		}
	}
	verifiesBy(t, r, theKid("a"), "sample", theSignature(thePrivate("b"), "sample"), false)
	verifiesBy(t, r, theKid("b"), "sample", theSignature(thePrivate("a"), "sample"), false)
}

func TestP83Public(t *testing.T) {
	seeds, _ := someSeeds()
	r := ringOf(t, seeds...)
	for _, seed := range seeds {
		for range 2 {
			if q, ok := r.Public(theKid(seed)); q != multiple(thePrivate(seed)) || !ok {
				t.Errorf("%.40q: %v, %t", seed, q, ok)
			}
		}
		for _, kid := range notKids(theKid(seed)) {
			if q, ok := r.Public(kid); q != (api.Point{}) || ok {
				t.Errorf("%q: %v, %t", kid, q, ok)
			}
		}
	}
}

// What a ring's public key tells is what its signatures fit by, in any program.
func TestP83PublicKeysVerify(t *testing.T) {
	r := ringOf(t, "a", "b")
	for _, s := range []string{"", "sample", highSums[1]} {
		kid, sig, _ := r.Sign(s)
		q, _ := r.Public(kid)
		verifies(t, q, s, sig, true)
		if !otherVerify(q, s, sig) {
			t.Errorf("%q: %x", s, sig)
		}
	}
}

// What was vouched for, and signed, stays so after every Turn, of the ring and of its clones.
func TestP84AfterTurns(t *testing.T) {
	seeds, _ := someSeeds()
	r := sign.NewRing(seeds[0])
	rings := []*sign.Ring{r}
	type signed struct{ kid, mac, by, sig string }
	var all []signed
	for i := range seeds {
		if i > 0 {
			turns(t, r, seeds[i], api.OK)
		}
		rings[0] = r.Clone()
		kid, mac := r.Mac("sample")
		by, sig, err := r.Sign("sample")
		if err != api.OK {
			t.Errorf("%d", err)
		}
		all = append(all, signed{kid, mac, by, sig})
		rings = append(rings, ringOf(t, seeds[:i+1]...))
		for _, x := range all {
			for _, ring := range []*sign.Ring{r, rings[0], rings[len(rings)-1], rings[0].Clone()} {
				vouches(t, ring, x.kid, "sample", x.mac, true)
				verifiesBy(t, ring, x.by, "sample", x.sig, true)
			}
		}
	}
}

// Two rings with the same seeds, laid down as these.
func TestP84LaidDownAsSeeds(t *testing.T) {
	seeds, _ := someSeeds()
	r := ringOf(t, seeds...)
	again := ringOf(t, r.Seeds()...)
	has(t, again, seeds...)
	kid, sig, _ := r.Sign("sample")
	verifiesBy(t, again, kid, "sample", sig, true)
	kid, mac := again.Mac("sample")
	vouches(t, r, kid, "sample", mac, true)
}

// R7: a clone tells the same, and goes its own way, as its original does.
func TestR7Clones(t *testing.T) {
	seeds, other := someSeeds()
	for i := range len(seeds) - 1 {
		r := ringOf(t, seeds[:i+1]...)
		one, two := r.Clone(), r.Clone()
		has(t, one, seeds[:i+1]...)
		turns(t, one, other, api.OK)
		has(t, r, seeds[:i+1]...)
		turns(t, r, seeds[i+1], api.OK)
		has(t, two, seeds[:i+1]...)
		has(t, one, append(slices.Clone(seeds[:i+1]), other)...)
		has(t, r, seeds[:i+2]...)
		hasNoKey(t, r, other)
		hasNoKey(t, one, seeds[i+1])
		three := one.Clone()
		turns(t, three, other, api.ErrSignKey)
		has(t, three, one.Seeds()...)
	}
}

// R4: what is answered is the caller's, the room behind it too, and a seed that is handed in isn't kept.
func TestR4ListsAreTheCallers(t *testing.T) {
	seeds, _ := someSeeds()
	r := ringOf(t, seeds[:3]...)
	for _, f := range []func() []string{r.Kids, r.Seeds} {
		l, m := f(), f()
		for i := range l[:cap(l)] {
			l[:cap(l)][i] = "mine"
		}
		_ = append(l, "more")
		if slices.Contains(m[:cap(m)], "mine") {
			t.Errorf("%q", m)
		}
	}
	has(t, r, seeds[:3]...)
	turns(t, r, seeds[3], api.OK)
	has(t, r, seeds[:4]...)
}

func TestR4SeedsAreNotKept(t *testing.T) {
	first, second := []byte("first seed"), []byte("second seed")
	r := sign.NewRing(unsafe.String(&first[0], len(first)))
	turns(t, r, unsafe.String(&second[0], len(second)), api.OK)
	first[0], second[0] = 'x', 'x'
	has(t, r, "first seed", "second seed")
}

// R5: what a ring answers hangs on its seeds alone: not on what was asked before, nor on what others ask of it at the same time.
func TestR5AskedAtTheSameTime(t *testing.T) {
	seeds, other := someSeeds()
	r := ringOf(t, seeds[:4]...)
	var all sync.WaitGroup
	for i := range 8 {
		all.Go(func() {
			ring := r
			if i%2 == 1 {
				ring = r.Clone()
			}
			hasNoKey(t, ring, other)
			has(t, ring, seeds[:4]...)
		})
	}
	all.Wait()
	has(t, r, seeds[:4]...)
}

func TestR5ARefusedTurnIsNotKept(t *testing.T) {
	r := ringOf(t, "a", "b")
	for i := range 20 {
		turns(t, r, "a", api.ErrSignKey)
		r.Vouch("", strconv.Itoa(i), "")
		r.Verify("a", "b", strconv.Itoa(i))
		r.Public("none")
	}
	has(t, r, "a", "b")
	turns(t, r, "c", api.OK)
	has(t, r, "a", "b", "c")
}

// onARing: all of its calls, at any texts.
func onARing(t *testing.T, seed, second, s, mac, kid string) {
	t.Helper()
	r, want := sign.NewRing(seed), []string{seed}
	if second == seed {
		turns(t, r, second, api.ErrSignKey)
	} else {
		turns(t, r, second, api.OK)
		want = append(want, second)
	}
	has(t, r.Clone(), want...)
	newest := want[len(want)-1]
	vouches(t, r, theKid(newest), s, mac, mac == theMac(theMacKey(newest), s))
	verifiesBy(t, r, theKid(newest), s, mac, otherVerify(multiple(thePrivate(newest)), s, mac))
	known := slices.Contains(theKids(want), kid)
	if _, ok := r.Public(kid); ok != known || !known && (r.Vouch(kid, s, mac) || r.Verify(kid, s, mac)) {
		t.Errorf("%q: %t", kid, ok)
	}
}
