package token_test

import (
	"crypto/ecdsa"
	"crypto/elliptic"
	"crypto/sha256"
	stdjson "encoding/json"
	"fmt"
	"math/big"
	"strings"
	"sync"
	"testing"
	"unsafe"

	"seneschal/api"
	"seneschal/sign"
	"seneschal/token"
)

// noughtAhead: seeds whose public X, and whose public Y, have a byte 0 ahead.
func noughtAhead(t *testing.T) (x, y string) {
	t.Helper()
	for i := 0; x == "" || y == ""; i++ {
		seed := fmt.Sprint(i)
		px, py := publicOf(seed)
		if px.BitLen() <= 248 {
			x = seed
		}
		if py.BitLen() <= 248 {
			y = seed
		}
	}
	return x, y
}

// keysOf: what the chapter says of a ring of those seeds.
func keysOf(seeds ...string) string {
	var l []string
	for _, seed := range seeds {
		x, y := publicOf(seed)
		l = append(l, fmt.Sprintf(`{"kty":"EC","crv":"P-256","kid":"%s","alg":"ES256","use":"sig","x":"%s","y":"%s"}`, kidOf(seed), coordinate(x), coordinate(y)))
	}
	return `{"keys":[` + strings.Join(l, ",") + `]}`
}

func coordinate(n *big.Int) string { return base(string(n.FillBytes(make([]byte, 32)))) }

func TestP143Keys(t *testing.T) {
	x, y := noughtAhead(t)
	seeds := []string{"a", "", x, y, "\xff", "é", strings.Repeat("long", 100), "last"}
	for n := range seeds {
		r := ringOf(t, seeds[:n+1]...)
		same(t, "Keys", token.Keys(r), keysOf(seeds[:n+1]...))
		same(t, "of a clone", token.Keys(r.Clone()), keysOf(seeds[:n+1]...))
	}
	r := ringOf(t, "b", "a")
	same(t, "Keys", token.Keys(r), keysOf("b", "a"))
	r.Turn("c")
	same(t, "behind a Turn", token.Keys(r), keysOf("b", "a", "c"))
}

// By the keys that are told, another program verifies an id token.
func TestP143AnotherProgramVerifies(t *testing.T) {
	r := ringOf(t, "a", "b", "c")
	text := id().issues(t, r, example())
	var told struct {
		Keys []struct{ Kty, Crv, Kid, Alg, Use, X, Y string }
	}
	if err := stdjson.Unmarshal([]byte(token.Keys(r)), &told); err != nil || len(told.Keys) != 3 {
		t.Fatal(err, told)
	}
	parts := strings.Split(text, ".")
	for i, k := range told.Keys {
		x, _ := fromBase(k.X)
		y, _ := fromBase(k.Y)
		q := ecdsa.PublicKey{Curve: elliptic.P256(), X: new(big.Int).SetBytes([]byte(x)), Y: new(big.Int).SetBytes([]byte(y))}
		sum := sha256.Sum256([]byte(parts[0] + "." + parts[1]))
		sig, _ := fromBase(parts[2])
		fit := ecdsa.Verify(&q, sum[:], new(big.Int).SetBytes([]byte(sig[:32])), new(big.Int).SetBytes([]byte(sig[32:])))
		same(t, k.Kid, []any{fit, len(x), len(y)}, []any{i == 2, 32, 32})
	}
}

// volatile: a text whose bytes become other ones by spoil, as if somebody else took its memory.
type volatile struct{ all [][]byte }

func (v *volatile) text(s string) string {
	if s == "" {
		return ""
	}
	b := []byte(s)
	v.all = append(v.all, b)
	return unsafe.String(&b[0], len(b))
}

func (v *volatile) texts(l []string) []string {
	c := make([]string, 0, len(l)+2)
	for _, s := range l {
		c = append(c, v.text(s))
	}
	return c
}

func (v *volatile) claims(c api.Claims) api.Claims {
	c.Iss, c.Sub, c.Aud, c.Client, c.Jti, c.Nonce = v.text(c.Iss), v.text(c.Sub), v.text(c.Aud), v.text(c.Client), v.text(c.Jti), v.text(c.Nonce)
	c.Scope, c.Act = v.texts(c.Scope), v.texts(c.Act)
	return c
}

func (v *volatile) spoil() {
	for _, b := range v.all {
		for i := range b {
			b[i] = 'X'
		}
	}
}

func TestR4WhatIsHandedInIsNeitherKeptNorChanged(t *testing.T) {
	for _, k := range kinds() {
		for _, c := range []api.Claims{example(), full(), {Act: []string{"d", "c", "b", "a"}, Nonce: "n"}} {
			var v volatile
			r := sign.NewRing("a")
			in := v.claims(c)
			text := k.issues(t, r, in)
			same(t, "Check", token.Check(in), api.OK)
			same(t, "what was handed in", in, c)
			for _, l := range [][]string{in.Scope, in.Act} {
				same(t, "the room behind it", strings.Join(l[:cap(l)][len(l):], ""), "")
			}
			got, e := k.read(r, v.text(text))
			v.spoil()
			same(t, "the token", text, k.of("a", c))
			same(t, "the claims", []any{got, e}, []any{c, api.OK})
		}
	}
}

func TestR4WhatIsAnsweredIsNew(t *testing.T) {
	r := sign.NewRing("a")
	for _, k := range kinds() {
		text := k.issues(t, r, full())
		one, _ := k.read(r, text)
		two, _ := k.read(r, text)
		for i, l := range [][]string{one.Scope, one.Act, two.Scope, two.Act} {
			for j := range l[:cap(l)] {
				if strings.HasPrefix(l[:cap(l)][j], "mine") {
					t.Fatal("two lists have one room")
				}
				l[:cap(l)][j] = fmt.Sprint("mine", i)
			}
		}
		k.is(t, r, text, full())
	}
}

// R5: what else is called, and on how many goroutines, shows in no answer.
func TestR5OneAnswer(t *testing.T) {
	r := ringOf(t, "a", "b")
	keys := keysOf("a", "b")
	var all sync.WaitGroup
	for i := range 8 {
		all.Go(func() {
			for _, k := range kinds() {
				c := example()
				c.Iat, c.Level = i, i
				text := k.issues(t, r, c)
				same(t, "the token", text, k.of("b", c))
				k.is(t, r, text, c)
				k.refuses(t, r, text+"=", api.ErrTokenText)
				same(t, "Keys", token.Keys(r), keys)
			}
		})
	}
	all.Wait()
	same(t, "the ring", []any{r.Seeds(), token.Keys(r)}, []any{[]string{"a", "b"}, keys})
}
