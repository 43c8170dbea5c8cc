package token_test

import (
	"crypto/ecdsa"
	"crypto/elliptic"
	"crypto/hmac"
	"crypto/sha256"
	"encoding/base64"
	stdjson "encoding/json"
	"fmt"
	"math/big"
	"math/rand"
	"regexp"
	"slices"
	"strconv"
	"strings"
	"testing"
	"unicode/utf8"

	"seneschal/api"
	"seneschal/sign"
	"seneschal/token"
)

// kind of tokens: how they are made and read, and what their heads say.
type kind struct {
	alg, typ string
	issue    func(*sign.Ring, api.Claims) (string, api.Errno)
	read     func(*sign.Ring, string) (api.Claims, api.Errno)
	seal     func(seed, s string) string
	fits     func(seed, s, seal string) bool
}

func access() kind {
	return kind{"HS256", "at+jwt", token.Access, token.Read, macBy, func(seed, s, seal string) bool { return macBy(seed, s) == seal }}
}

func id() kind { return kind{"ES256", "JWT", token.Id, token.ReadId, signatureBy, signedBy} }

func kinds() []kind { return []kind{access(), id()} }

// theMac: HMAC with SHA-256.
func theMac(key, s string) string {
	h := hmac.New(sha256.New, []byte(key))
	h.Write([]byte(s))
	return string(h.Sum(nil))
}

// kidOf: the name of a seed's key, as chapter 8 says it.
func kidOf(seed string) string { return base(theMac("kid", seed)[:9]) }

// macBy: the mac by a seed's key.
func macBy(seed, s string) string { return theMac(theMac("mac", seed), s) }

// privateOf a seed's key.
func privateOf(seed string) *big.Int {
	x := new(big.Int).SetBytes([]byte(theMac("key", seed)))
	return x.Mod(x, elliptic.P256().Params().N)
}

// publicOf a seed's key: X and Y.
func publicOf(seed string) (x, y *big.Int) {
	return elliptic.P256().ScalarBaseMult(privateOf(seed).Bytes())
}

// signatureBy: the signature by a seed's key.
func signatureBy(seed, s string) string {
	var d api.Num
	b := privateOf(seed).FillBytes(make([]byte, 32))
	for i, c := range b {
		d[3-i/8] = d[3-i/8]<<8 | uint64(c)
	}
	sig, e := sign.Sign(d, s)
	if e != api.OK {
		panic(e)
	}
	return sig
}

// signedBy: does a signature fit by a seed's key, as another program tells?
func signedBy(seed, s, sig string) bool {
	if len(sig) != 64 {
		return false
	}
	x, y := publicOf(seed)
	sum := sha256.Sum256([]byte(s))
	r, t := new(big.Int).SetBytes([]byte(sig[:32])), new(big.Int).SetBytes([]byte(sig[32:]))
	return ecdsa.Verify(&ecdsa.PublicKey{Curve: elliptic.P256(), X: x, Y: y}, sum[:], r, t)
}

// turned: a signature with N less t in the place of t.
func turned(sig string) string {
	t := new(big.Int).SetBytes([]byte(sig[32:]))
	return sig[:32] + string(t.Sub(elliptic.P256().Params().N, t).FillBytes(make([]byte, 32)))
}

// ringOf: a ring with the keys of those seeds.
func ringOf(t testing.TB, seeds ...string) *sign.Ring {
	t.Helper()
	r := sign.NewRing(seeds[0])
	for _, seed := range seeds[1:] {
		if e := r.Turn(seed); e != api.OK {
			t.Fatalf("Turn: %d", e)
		}
	}
	return r
}

func base(s string) string { return base64.RawURLEncoding.EncodeToString([]byte(s)) }

// quoted: a text's form.
func quoted(s string) string {
	var b strings.Builder
	for i := range len(s) {
		switch c := s[i]; {
		case c == '"' || c == '\\':
			b.WriteString(`\` + string(rune(c)))
		case strings.IndexByte("\b\t\n\f\r", c) >= 0:
			b.WriteByte('\\')
			b.WriteByte("btnfr"[strings.IndexByte("\b\t\n\f\r", c)])
		case c < 32:
			fmt.Fprintf(&b, `\u%04x`, c)
		default:
			b.WriteByte(c)
		}
	}
	return `"` + b.String() + `"`
}

// bodyOf claims, as the chapter says it.
func bodyOf(c api.Claims) string {
	act := ""
	for i := len(c.Act) - 1; i >= 0; i-- {
		act = `,"act":{"sub":` + quoted(c.Act[i]) + act + `}`
	}
	nonce := ""
	if c.Nonce != "" {
		nonce = `,"nonce":` + quoted(c.Nonce)
	}
	return fmt.Sprintf(`{"iss":%s,"sub":%s,"aud":%s,"client_id":%s,"jti":%s,"iat":%d,"exp":%d,"scope":%s,"level":%d%s%s}`,
		quoted(c.Iss), quoted(c.Sub), quoted(c.Aud), quoted(c.Client), quoted(c.Jti), c.Iat, c.Exp, quoted(strings.Join(c.Scope, " ")), c.Level, act, nonce)
}

// headOf a kind, with a key's name.
func (k kind) headOf(kid string) string {
	return fmt.Sprintf(`{"alg":"%s","kid":%s,"typ":"%s"}`, k.alg, quoted(kid), k.typ)
}

// sealed: a token of any head and body, by a seed's key.
func (k kind) sealed(seed, head, body string) string {
	return k.over(seed, base(head)+"."+base(body))
}

// over: what stands ahead of a seal, with it.
func (k kind) over(seed, s string) string { return s + "." + base(k.seal(seed, s)) }

// of claims, by a seed's key: a token as the chapter says it.
func (k kind) of(seed string, c api.Claims) string {
	return k.sealed(seed, k.headOf(kidOf(seed)), bodyOf(c))
}

// Forms, as one expression each.
const (
	aText   = `"((?:[^\x00-\x1f"\\]|\\["\\bfnrt]|\\u00(?:0[0-7bef]|1[0-9a-f]))*)"`
	aNumber = `(0|[1-9][0-9]{0,15})`
	aScope  = `"((?:[!#-\[\]-~]{1,32}(?: [!#-\[\]-~]{1,32})*)?)"`
	aBase   = `([A-Za-z0-9_-]*)`
)

var (
	tokenForm = regexp.MustCompile(`\A` + aBase + `\.` + aBase + `\.` + aBase + `\z`)
	headForm  = regexp.MustCompile(`\A\{"alg":"(HS256|ES256)","kid":` + aText + `,"typ":"(at\+jwt|JWT)"\}\z`)
	bodyForm  = regexp.MustCompile(`\A\{"iss":` + aText + `,"sub":` + aText + `,"aud":` + aText + `,"client_id":` + aText + `,"jti":` + aText +
		`,"iat":` + aNumber + `,"exp":` + aNumber + `,"scope":` + aScope + `,"level":` + aNumber +
		strings.Repeat(`(?:,"act":\{"sub":`+aText, 4) + strings.Repeat(`\})?`, 4) + `(?:,"nonce":` + aText + `)?\}\z`)
)

// match: what an expression's brackets hold, as texts.
func match(form *regexp.Regexp, s string) []string {
	if !utf8.ValidString(s) {
		return nil
	}
	return form.FindStringSubmatch(s)
}

// unquoted: a text whose form, without quotes, s is.
func unquoted(s string) string {
	if err := stdjson.Unmarshal([]byte(`"`+s+`"`), &s); err != nil {
		panic(err)
	}
	return s
}

// fromBase: the bytes of which s, of its characters alone, is base64url.
func fromBase(s string) (string, bool) {
	b, err := base64.RawURLEncoding.Strict().DecodeString(s)
	return string(b), err == nil
}

// mayBe: may claims be?
func mayBe(c api.Claims) bool {
	for _, s := range []string{c.Iss, c.Sub, c.Aud, c.Client, c.Jti, c.Nonce} {
		if len(s) > 128 || !utf8.ValidString(s) {
			return false
		}
	}
	if c.Iat < 0 || c.Exp < 0 || c.Level < 0 || c.Iat > 1<<40 || c.Exp > 1<<40 || c.Level > 9 || len(c.Scope) > 16 || len(c.Act) > 4 {
		return false
	}
	word := regexp.MustCompile(`\A[!#-\[\]-~]{1,32}\z`)
	for i, w := range c.Scope {
		if !word.MatchString(w) || slices.ContainsFunc(c.Scope[:i], func(other string) bool { return other >= w }) {
			return false
		}
	}
	return !slices.ContainsFunc(c.Act, func(s string) bool { return s == "" || len(s) > 128 || !utf8.ValidString(s) })
}

// told: the claims whose body s is.
func told(s string) (api.Claims, bool) {
	m := match(bodyForm, s)
	if m == nil || len(s) > 3 && strings.Contains(s, `,"nonce":""`) {
		return api.Claims{}, false
	}
	text := func(i int) string { return unquoted(m[i]) }
	number := func(i int) int { n, _ := strconv.Atoi(m[i]); return n }
	c := api.Claims{Iss: text(1), Sub: text(2), Aud: text(3), Client: text(4), Jti: text(5), Iat: number(6), Exp: number(7), Level: number(9), Nonce: text(14)}
	c.Scope = strings.FieldsFunc(m[8], func(r rune) bool { return r == ' ' })
	for i := range strings.Count(s, `,"act":{"sub":"`) {
		c.Act = append(c.Act, text(10+i))
	}
	return c, mayBe(c)
}

// readBy: what a text is to a ring of those seeds, as the chapter says it.
func (k kind) readBy(seeds []string, s string) (api.Claims, api.Errno) {
	m := tokenForm.FindStringSubmatch(s)
	if m == nil {
		return api.Claims{}, api.ErrTokenText
	}
	head, one := fromBase(m[1])
	body, two := fromBase(m[2])
	seal, three := fromBase(m[3])
	h := match(headForm, head)
	c, ok := told(body)
	if !one || !two || !three || !ok || h == nil || h[1] != k.alg || h[3] != k.typ {
		return api.Claims{}, api.ErrTokenText
	}
	for _, seed := range seeds {
		if kidOf(seed) == unquoted(h[2]) && k.fits(seed, m[1]+"."+m[2], seal) {
			return c, api.OK
		}
	}
	return api.Claims{}, api.ErrTokenSign
}

// emptyList: one that is told as such, where nil is told otherwise.
var emptyList = regexp.MustCompile(`(\[\][a-zA-Z.]+)\{\}`)

// as: an answer as a text; a list without anything is no other one than nil.
func as(x any) string { return emptyList.ReplaceAllString(fmt.Sprintf("%#v", x), "$1(nil)") }

// same: two answers.
func same(t testing.TB, what string, got, want any) {
	t.Helper()
	if a, b := as(got), as(want); a != b {
		t.Errorf("%s: %.900s; want %.900s", what, a, b)
	}
}

// is: what a text is read as.
func (k kind) is(t testing.TB, r *sign.Ring, text string, want api.Claims) {
	t.Helper()
	c, e := k.read(r, text)
	same(t, k.typ+" "+text, []any{c, e}, []any{want, api.OK})
}

// refuses: a text is read as none.
func (k kind) refuses(t testing.TB, r *sign.Ring, text string, want api.Errno) {
	t.Helper()
	c, e := k.read(r, text)
	same(t, k.typ+" "+text, []any{c, e}, []any{api.Claims{}, want})
}

// agrees: a text is read as the chapter says it.
func (k kind) agrees(t testing.TB, r *sign.Ring, text string) api.Errno {
	t.Helper()
	c, e := k.read(r, text)
	want, wantE := k.readBy(r.Seeds(), text)
	same(t, k.typ+" "+text, []any{c, e}, []any{want, wantE})
	return e
}

// issues: the token that claims make.
func (k kind) issues(t testing.TB, r *sign.Ring, c api.Claims) string {
	t.Helper()
	text, e := k.issue(r, c)
	if e != api.OK {
		t.Fatalf("%s of %.300s: %d", k.typ, as(c), e)
	}
	return text
}

// example: the chapter's claims.
func example() api.Claims {
	return api.Claims{Iss: "i", Sub: "u:ann", Aud: "api", Client: "web", Jti: "7", Iat: 1, Exp: 61, Scope: []string{"mail", "read"}, Act: []string{"c:job"}}
}

// full: claims that have as much of all as may be, and all of it as long as it can be laid.
func full() api.Claims {
	long := strings.Repeat("\x01", api.MaxText)
	c := api.Claims{Iss: long, Sub: long, Aud: long, Client: long, Jti: long, Nonce: long, Iat: api.MaxTick, Exp: api.MaxTick, Level: 9}
	for i := range api.MaxScopes {
		c.Scope = append(c.Scope, string(rune('!'+2*i))+strings.Repeat("~", api.MaxScope-1))
	}
	c.Scope = slices.DeleteFunc(c.Scope, func(w string) bool { return strings.ContainsAny(w, `"\`) })
	for len(c.Scope) < api.MaxScopes {
		c.Scope = append(c.Scope, strings.Repeat("~", api.MaxScope-api.MaxScopes+len(c.Scope)+1))
	}
	for range api.MaxActors {
		c.Act = append(c.Act, long)
	}
	return c
}

// chance: one of a list.
func chance[T any](by *rand.Rand, of ...T) T { return of[by.Intn(len(of))] }

// someText: one of all kinds.
func someText(by *rand.Rand) string {
	return chance(by, "", "i", "u:ann", "7", `a"b`, `\`, `\u0041`, "\x00\x1f", "\b\t\n\v\f\r", "\x7f", "/", "é", "\U0001F600", "\u2028<>&", " ", ".", `","iat":1`, "\ufffd", strings.Repeat("é", 64), strings.Repeat("x", 128))
}

// someClaims that may be.
func someClaims(by *rand.Rand) api.Claims {
	number := func() int { return chance(by, 0, 1, 10, 61, by.Intn(1<<40), 1<<40) }
	c := api.Claims{Iss: someText(by), Sub: someText(by), Aud: someText(by), Client: someText(by), Jti: someText(by), Iat: number(), Exp: number(), Level: by.Intn(10)}
	for _, w := range []string{"!", "#", "#!", "admin", "mail", "mail:a", "read", "scim", strings.Repeat("t", 32), "z{|}~"} {
		if by.Intn(3) == 0 {
			c.Scope = append(c.Scope, w)
		}
	}
	for range by.Intn(5) {
		c.Act = append(c.Act, "c:"[:by.Intn(3)]+someText(by)[:0]+chance(by, "job", `q"`, "é", "\n", " "))
	}
	if by.Intn(2) == 0 {
		c.Nonce = someText(by)
	}
	return c
}
