package passkey_test

import (
	"crypto/ecdsa"
	"crypto/elliptic"
	"crypto/sha256"
	"encoding/base64"
	stdjson "encoding/json"
	"fmt"
	"math/big"
	"math/rand"
	"strings"
	"testing"
	"unicode/utf8"

	"seneschal/api"
	"seneschal/json"
	"seneschal/passkey"
	"seneschal/sign"
)

// theN and theP: the moduli.
func theN() *big.Int { return new(big.Int).Set(elliptic.P256().Params().N) }
func theP() *big.Int { return new(big.Int).Set(elliptic.P256().Params().P) }

// numOf: the lowest 256 bits of a number.
func numOf(x *big.Int) api.Num {
	var a api.Num
	low := new(big.Int).Mod(x, new(big.Int).Lsh(big.NewInt(1), 256))
	for i := range a {
		a[i] = new(big.Int).Rsh(low, uint(64*i)).Uint64()
	}
	return a
}

// num: a small one.
func num(x int64) api.Num { return numOf(big.NewInt(x)) }

// bigOf: a number, as another program has it.
func bigOf(a api.Num) *big.Int {
	x := new(big.Int)
	for i := range a {
		x.Or(x, new(big.Int).Lsh(new(big.Int).SetUint64(a[i]), uint(64*i)))
	}
	return x
}

// octets: the 32 bytes of a number, and fromOctets: the number of bytes.
func octets(x *big.Int) string     { return string(x.FillBytes(make([]byte, 32))) }
func fromOctets(s string) *big.Int { return new(big.Int).SetBytes([]byte(s)) }

// publicOf a private key, as another program has it: the bytes of X and Y.
func publicOf(d api.Num) (x, y string) {
	a, b := elliptic.P256().ScalarBaseMult(bigOf(d).Bytes())
	return octets(a), octets(b)
}

// keyOf a private key: the passkey of an id and a count.
func keyOf(d api.Num, id string, count int) api.Key {
	x, y := publicOf(d)
	return api.Key{Id: base(id), X: x, Y: y, Count: count}
}

func base(s string) string { return base64.RawURLEncoding.EncodeToString([]byte(s)) }

func sumOf(s string) string {
	sum := sha256.Sum256([]byte(s))
	return string(sum[:])
}

// signedBy a private key.
func signedBy(t testing.TB, d api.Num, s string) string {
	t.Helper()
	sig, e := sign.Sign(d, s)
	if e != api.OK {
		t.Fatalf("Sign: %d", e)
	}
	return sig
}

// turned: a signature with N less its second number in that one's place.
func turned(sig string) string {
	return sig[:32] + octets(new(big.Int).Sub(theN(), fromOctets(sig[32:])))
}

// quoted: a text's form.
func quoted(s string) string {
	var b strings.Builder
	for i := range len(s) {
		switch c := s[i]; {
		case c == '"' || c == '\\':
			b.WriteString(`\` + string(rune(c)))
		case strings.IndexByte("\b\t\n\f\r", c) >= 0:
			b.WriteByte('\\')
			b.WriteByte("btnfr"[strings.IndexByte("\b\t\n\f\r", c)])
		case c < 32:
			fmt.Fprintf(&b, `\u%04x`, c)
		default:
			b.WriteByte(c)
		}
	}
	return `"` + b.String() + `"`
}

// clientOf: client data, as the chapter says it.
func clientOf(kind, challenge, origin string) string {
	return `{"type":` + quoted(kind) + `,"challenge":` + quoted(challenge) + `,"origin":` + quoted(origin) + `}`
}

// bigEnd: a number as so many bytes, the highest first.
func bigEnd(n, size int) string {
	b := big.NewInt(int64(n)).FillBytes(make([]byte, 8))
	return string(b[8-size:])
}

// headOf a CBOR item, as few bytes as take n.
func headOf(kind, n int) string {
	switch {
	case n < 24:
		return string([]byte{byte(kind<<5 + n)})
	case n < 1<<8:
		return string([]byte{byte(kind<<5 + 24)}) + bigEnd(n, 1)
	case n < 1<<16:
		return string([]byte{byte(kind<<5 + 25)}) + bigEnd(n, 2)
	}
	return string([]byte{byte(kind<<5 + 26)}) + bigEnd(n, 4)
}

// bytesItem and textItem: CBOR of a text.
func bytesItem(s string) string { return headOf(2, len(s)) + s }
func textItem(s string) string  { return headOf(3, len(s)) + s }

// What stands about X and Y in a public key.
const (
	aheadX = "\xa5\x01\x02\x03\x26\x20\x01\x21\x58\x20"
	aheadY = "\x22\x58\x20"
)

// saying: what an authenticator says, part by part, so that each part may be another one.
type saying struct {
	format, client                   string
	sum                              string
	flags                            byte
	count                            int
	any, length, id, public, further string
}

// made: as it says it of a key that is made.
func made(d api.Num, id, challenge, origin string, count int) saying {
	x, y := publicOf(d)
	return saying{
		format: "none", client: clientOf("webauthn.create", challenge, origin),
		sum: sumOf(origin), flags: 65, count: count,
		any: strings.Repeat("\x00", 16), length: bigEnd(len(id), 2), id: id, public: aheadX + x + aheadY + y,
	}
}

// asked: as it says it when it is asked.
func asked(challenge, origin string, count int) saying {
	return saying{client: clientOf("webauthn.get", challenge, origin), sum: sumOf(origin), flags: 1, count: count}
}

// data: the authenticator data.
func (s saying) data() string {
	return s.sum + string([]byte{s.flags}) + bigEnd(s.count, 4) + s.any + s.length + s.id + s.public + s.further
}

// attestation: all of it.
func (s saying) attestation() string {
	return "\xa3" + textItem("fmt") + textItem(s.format) + textItem("authData") + bytesItem(s.data()) + textItem("clientDataJSON") + bytesItem(s.client)
}

// signed: what a signature is of.
func (s saying) signed() string { return s.data() + sumOf(s.client) }

// but: with something otherwise.
func (s saying) but(change func(*saying)) saying {
	change(&s)
	return s
}

// isKey: may a passkey be, as the chapter says it?
func isKey(k api.Key) bool {
	id, err := base64.RawURLEncoding.Strict().DecodeString(k.Id)
	if err != nil || strings.ContainsAny(k.Id, "\r\n") || len(id) < 1 || len(id) > 64 {
		return false
	}
	return isPoint(k.X, k.Y) && k.Count >= 0 && k.Count < 1<<32
}

// isPoint: are they the bytes of a point's X and Y?
func isPoint(x, y string) bool {
	if len(x) != 32 || len(y) != 32 {
		return false
	}
	a, b := fromOctets(x), fromOctets(y)
	if a.Cmp(theP()) >= 0 || b.Cmp(theP()) >= 0 {
		return false
	}
	right := new(big.Int).Exp(a, big.NewInt(3), nil)
	right.Sub(right, new(big.Int).Mul(a, big.NewInt(3)))
	right.Add(right, elliptic.P256().Params().B)
	return new(big.Int).Mod(right.Sub(right, new(big.Int).Mul(b, b)), theP()).Sign() == 0
}

// cut what s begins with: the text of an item of CBOR of that kind.
func cut(s string, kind int) (text, rest string, ok bool) {
	for size := range 6 {
		if size > len(s) {
			return "", "", false
		}
		n := 0
		for i := 1; i < size; i++ {
			n = n<<8 | int(s[i])
		}
		if size == 1 {
			n = int(s[0] & 31)
		}
		if headOf(kind, n) == s[:size] && n <= len(s)-size {
			return s[size : size+n], s[size+n:], true
		}
	}
	return "", "", false
}

// partsOf an attestation.
func partsOf(s string) (format, data, client string, ok bool) {
	if len(s) > 4096 {
		return "", "", "", false
	}
	s, one := strings.CutPrefix(s, "\xa3\x63fmt")
	format, s, two := cut(s, 3)
	s, three := strings.CutPrefix(s, "\x68authData")
	data, s, four := cut(s, 2)
	s, five := strings.CutPrefix(s, "\x6eclientDataJSON")
	client, s, six := cut(s, 2)
	return format, data, client, one && two && three && four && five && six && s == "" && utf8.ValidString(format)
}

// saidBy client data.
func saidBy(s string) (told [3]string, ok bool) {
	// What is JSON at all layer 2 tells; what it says, another program.
	var v any
	if _, e := json.Parse(s); e != api.OK || stdjson.Unmarshal([]byte(s), &v) != nil {
		return told, false
	}
	members, ok := v.(map[string]any)
	for i, key := range []string{"type", "challenge", "origin"} {
		text, isText := members[key].(string)
		told[i] = text
		ok = ok && isText
	}
	return told, ok
}

// keyIn a key's data, behind its count.
func keyIn(s string, count int) (api.Key, bool) {
	if len(s) < 18+77 {
		return api.Key{}, false
	}
	id, public := s[18:len(s)-77], s[len(s)-77:]
	x, y := public[len(aheadX):len(aheadX)+32], public[77-32:]
	k := api.Key{Id: base(id), X: x, Y: y, Count: count}
	return k, s[16:18] == bigEnd(len(id), 2) && public == aheadX+x+aheadY+y && isKey(k)
}

// registered: what Register has to answer, as the chapter says it.
func registered(attestation, challenge, origin string) (api.Key, api.Errno) {
	format, data, client, ok := partsOf(attestation)
	told, isClient := saidBy(client)
	if !ok || !isClient || len(data) < 37 || data[32]&64 == 0 || data[32]&128 != 0 {
		return api.Key{}, api.ErrPasskeyText
	}
	k, ok := keyIn(data[37:], int(fromOctets(data[33:37]).Int64()))
	if !ok {
		return api.Key{}, api.ErrPasskeyText
	}
	if format != "none" || told != [3]string{"webauthn.create", challenge, origin} || data[:32] != sumOf(origin) || data[32]&1 == 0 {
		return api.Key{}, api.ErrPasskeyOther
	}
	return k, api.OK
}

// asserted: what Assert has to answer, as the chapter says it.
func asserted(k api.Key, challenge, origin, data, client, sig string) (int, api.Errno) {
	told, ok := saidBy(client)
	switch {
	case !isKey(k):
		return 0, api.ErrPasskeyKey
	case !ok || len(data) != 37 || data[32]&64 != 0 || data[32]&128 != 0:
		return 0, api.ErrPasskeyText
	case told != [3]string{"webauthn.get", challenge, origin} || data[:32] != sumOf(origin) || data[32]&1 == 0:
		return 0, api.ErrPasskeyOther
	case !fits(k, data+sumOf(client), sig):
		return 0, api.ErrPasskeySign
	}
	return int(fromOctets(data[33:]).Int64()), api.OK
}

// fits: does a signature fit, as another program tells?
func fits(k api.Key, s, sig string) bool {
	if len(sig) != 64 {
		return false
	}
	sum := sha256.Sum256([]byte(s))
	q := ecdsa.PublicKey{Curve: elliptic.P256(), X: fromOctets(k.X), Y: fromOctets(k.Y)}
	return ecdsa.Verify(&q, sum[:], fromOctets(sig[:32]), fromOctets(sig[32:]))
}

// same: two answers.
func same(t testing.TB, what string, got, want any) {
	t.Helper()
	if a, b := fmt.Sprintf("%#v", got), fmt.Sprintf("%#v", want); a != b {
		t.Errorf("%.900s: %.900s; want %.900s", what, a, b)
	}
}

// registers: Register answers as the chapter says it, and with that error.
func registers(t testing.TB, attestation, challenge, origin string, want api.Errno) {
	t.Helper()
	what := fmt.Sprintf("Register %q, %.40q, %.40q", attestation, challenge, origin)
	same(t, what, agrees(t, attestation, challenge, origin), want)
}

// agrees: Register answers as the chapter says it, with the error that is told.
func agrees(t testing.TB, attestation, challenge, origin string) api.Errno {
	t.Helper()
	k, e := passkey.Register(attestation, challenge, origin)
	wantK, wantE := registered(attestation, challenge, origin)
	same(t, fmt.Sprintf("Register %q, %.40q, %.40q", attestation, challenge, origin), []any{k, e}, []any{wantK, wantE})
	return e
}

// asserts: Assert answers as the chapter says it, and with that error.
func asserts(t testing.TB, k api.Key, challenge, origin, data, client, sig string, want api.Errno) {
	t.Helper()
	what := fmt.Sprintf("Assert %#v, %.40q, %.40q, %q, %.300q, %x", k, challenge, origin, data, client, sig)
	same(t, what, holds(t, k, challenge, origin, data, client, sig), want)
}

// holds: Assert answers as the chapter says it, with the error that is told.
func holds(t testing.TB, k api.Key, challenge, origin, data, client, sig string) api.Errno {
	t.Helper()
	n, e := passkey.Assert(k, challenge, origin, data, client, sig)
	wantN, wantE := asserted(k, challenge, origin, data, client, sig)
	same(t, fmt.Sprintf("Assert %#v, %.40q, %.40q, %q, %.300q, %x", k, challenge, origin, data, client, sig), []any{n, e}, []any{wantN, wantE})
	return e
}

// enrols: what an authenticator says of a key that is made.
func enrols(t testing.TB, d api.Num, id, challenge, origin string, count int) string {
	t.Helper()
	s, e := passkey.Enrol(d, id, challenge, origin, count)
	if e != api.OK {
		t.Fatalf("Enrol %x, %q, %.40q, %.40q, %d: %d", d, id, challenge, origin, count, e)
	}
	return s
}

// answers: what it says when it is asked.
func answers(t testing.TB, d api.Num, challenge, origin string, count int) (data, client, sig string) {
	t.Helper()
	data, client, sig, e := passkey.Answer(d, challenge, origin, count)
	if e != api.OK {
		t.Fatalf("Answer %x, %.40q, %.40q, %d: %d", d, challenge, origin, count, e)
	}
	return data, client, sig
}

// chance: one of a list.
func chance[T any](by *rand.Rand, of ...T) T { return of[by.Intn(len(of))] }

// anyPrivate: a private key by chance, and one of those at the ends.
func anyPrivate(by *rand.Rand) api.Num {
	more := big.NewInt(int64(1 + by.Intn(3)))
	return chance(by, numOf(more), numOf(new(big.Int).Sub(theN(), more)), numOf(more.Add(more, new(big.Int).Rand(by, new(big.Int).Sub(theN(), big.NewInt(4))))))
}

// anyId: bytes, as many as an id has.
func anyId(by *rand.Rand) string {
	b := make([]byte, chance(by, 1, 2, 3, 63, 64, 1+by.Intn(64)))
	by.Read(b)
	return string(b)
}

// anyCount: one that may be.
func anyCount(by *rand.Rand) int {
	return chance(by, 0, 1, 255, 256, 1<<24, 1<<31-1, 1<<31, 1<<32-1, by.Intn(1<<32))
}

// anyText: one that client data may have.
func anyText(by *rand.Rand) string {
	return chance(by, "", "c", "o", "https://login.example", `a"b`, `\`, "\x00\x1f", "\b\t\n\v\f\r", "\x7f", "/", "é", "\U0001F600", "\u2028<>&", " ", `","origin":"`, "\ufffd", strings.Repeat("é", 64), strings.Repeat("x", 128), base(anyId(by)))
}
