package passkey_test

import (
	"math"
	"math/big"
	"math/rand"
	"strings"
	"testing"

	"seneschal/api"
	"seneschal/json"
	"seneschal/passkey"
)

// refused: Enrol answers an error alone.
func refused(t *testing.T, d api.Num, id, challenge, origin string, count int, want api.Errno) {
	t.Helper()
	s, e := passkey.Enrol(d, id, challenge, origin, count)
	same(t, "Enrol", []any{s, e}, []any{"", want})
}

// unanswered: Answer does.
func unanswered(t *testing.T, d api.Num, challenge, origin string, count int, want api.Errno) {
	t.Helper()
	data, client, sig, e := passkey.Answer(d, challenge, origin, count)
	same(t, "Answer", []any{data, client, sig, e}, []any{"", "", "", want})
}

// notPrivate: numbers that are no private key.
func notPrivate() []api.Num {
	l := []api.Num{{}, {0, 0, 0, 1<<64 - 1}, num(-1), num(-2), numOf(theP())}
	for i := range int64(3) {
		l = append(l, numOf(new(big.Int).Add(theN(), big.NewInt(i))))
	}
	return l
}

func TestP164Enrols(t *testing.T) {
	by := rand.New(rand.NewSource(164))
	same(t, "Enrol", enrols(t, num(7), "id", "c", "o", 5), sample().attestation())
	for range 80 {
		d, id, challenge, origin, count := anyPrivate(by), anyId(by), anyText(by), anyText(by), anyCount(by)
		same(t, "Enrol", enrols(t, d, id, challenge, origin, count), made(d, id, challenge, origin, count).attestation())
	}
}

// X or Y may have a byte 0 ahead.
func TestP164NoughtAhead(t *testing.T) {
	found := map[int]bool{}
	for i := int64(1); len(found) < 2; i++ {
		x, y := publicOf(num(i))
		for part, s := range []string{x, y} {
			if s[0] == 0 && !found[part] {
				found[part] = true
				same(t, "Enrol", enrols(t, num(i), "id", "c", "o", 5), made(num(i), "id", "c", "o", 5).attestation())
				registers(t, made(num(i), "id", "c", "o", 5).attestation(), "c", "o", api.OK)
			}
		}
	}
}

func TestP164PrivateKeys(t *testing.T) {
	for _, d := range notPrivate() {
		refused(t, d, "id", "c", "o", 5, api.ErrPasskeyKey)
		unanswered(t, d, "c", "o", 6, api.ErrPasskeyKey)
	}
	for _, d := range []api.Num{num(1), num(2), numOf(new(big.Int).Sub(theN(), big.NewInt(1)))} {
		enrols(t, d, "id", "c", "o", 5)
		answers(t, d, "c", "o", 6)
	}
}

func TestP164Ids(t *testing.T) {
	for _, size := range []int{0, 1, 2, 63, 64, 65, 66, 128, 256, 257, 1 << 16, 1<<16 + 1, 1 << 20} {
		id := strings.Repeat("\xff", size)
		if size < 1 || size > 64 {
			refused(t, num(7), id, "c", "o", 5, api.ErrPasskeyKey)
			continue
		}
		same(t, "Enrol", enrols(t, num(7), id, "c", "o", 5), made(num(7), id, "c", "o", 5).attestation())
	}
}

func TestP164Counts(t *testing.T) {
	for n, want := range map[int]bool{0: true, 1: true, 255: true, 256: true, 1 << 24: true, 1<<31 - 1: true, 1 << 31: true, 1<<32 - 1: true, 1 << 32: false, 1<<32 + 5: false, 1 << 40: false, math.MaxInt: false, -1: false, math.MinInt: false} {
		if !want {
			refused(t, num(7), "id", "c", "o", n, api.ErrPasskeyKey)
			unanswered(t, num(7), "c", "o", n, api.ErrPasskeyKey)
			continue
		}
		same(t, "Enrol", enrols(t, num(7), "id", "c", "o", n), made(num(7), "id", "c", "o", n).attestation())
		data, _, _ := answers(t, num(7), "c", "o", n)
		same(t, "Answer", data, asked("c", "o", n).data())
	}
}

func TestP164Answers(t *testing.T) {
	by := rand.New(rand.NewSource(1640))
	for range 80 {
		d, challenge, origin, count := anyPrivate(by), anyText(by), anyText(by), anyCount(by)
		data, client, sig := answers(t, d, challenge, origin, count)
		s := asked(challenge, origin, count)
		same(t, "Answer", []string{data, client, sig}, []string{s.data(), s.client, signedBy(t, d, s.signed())})
		if !fits(keyOf(d, "id", 0), data+sumOf(client), sig) {
			t.Errorf("%x: another program takes no signature %x of %q, %q", d, sig, data, client)
		}
	}
}

// notUtf8: texts that client data can't have.
func notUtf8() []string {
	return []string{"\xff", "a\xc3", "\xc3a", "\xed\xa0\x80", "\xc0\x80", "\xf4\x90\x80\x80", "\x80"}
}

func TestP164ClientData(t *testing.T) {
	for _, s := range notUtf8() {
		refused(t, num(7), "id", s, "o", 5, api.ErrJsonForm)
		refused(t, num(7), "id", "c", s, 5, api.ErrJsonForm)
		unanswered(t, num(7), s, "o", 6, api.ErrJsonForm)
		unanswered(t, num(7), "c", s, 6, api.ErrJsonForm)
		// The form is looked at ahead of how long it is.
		unanswered(t, num(7), s, strings.Repeat("x", 1<<16), 6, api.ErrJsonForm)
		unanswered(t, num(7), strings.Repeat("x", 1<<16), s, 6, api.ErrJsonForm)
		refused(t, num(7), "id", strings.Repeat("x", 1<<16), s, 5, api.ErrJsonForm)
		// The origin of a key's data may be any: it's the client data that may not.
		asserts(t, theKey(), "c", s, "", "", "", api.ErrPasskeyText)
	}
}

func TestP164LongClientData(t *testing.T) {
	bare := len(clientOf("webauthn.get", "", ""))
	for _, more := range []string{"", "o", strings.Repeat("o", 5000)} {
		room := api.MaxJson - bare - len(more)
		for _, c := range []struct{ challenge, origin string }{{strings.Repeat("c", room), more}, {more, strings.Repeat("c", room)}, {strings.Repeat("\x01", room/6) + strings.Repeat("c", room%6), more}} {
			data, client, _ := answers(t, num(7), c.challenge, c.origin, 6)
			same(t, "Answer", []any{data, len(client), client}, []any{asked(c.challenge, c.origin, 6).data(), api.MaxJson, clientOf("webauthn.get", c.challenge, c.origin)})
			unanswered(t, num(7), c.challenge+"c", c.origin, 6, api.ErrJsonLong)
			unanswered(t, num(7), c.challenge, c.origin+"c", 6, api.ErrJsonLong)
		}
	}
	unanswered(t, num(7), strings.Repeat("c", 1<<20), "o", 6, api.ErrJsonLong)
	_, want := json.Print(api.Json{Kind: api.JsonText, Text: strings.Repeat("c", 1<<20)})
	same(t, "json.Print", want, api.ErrJsonLong)
}

func TestP164LongAttestations(t *testing.T) {
	json := api.MaxJson - len(clientOf("webauthn.create", "", "o"))
	for _, id := range []string{"i", "id", strings.Repeat("i", 64)} {
		// Client data that is so long has a head of three bytes.
		room := api.MaxCbor - (len(made(num(7), id, "", "o", 5).attestation()) + 1)
		s := enrols(t, num(7), id, strings.Repeat("c", room), "o", 5)
		same(t, "Enrol", []any{s, len(s)}, []any{made(num(7), id, strings.Repeat("c", room), "o", 5).attestation(), api.MaxCbor})
		refused(t, num(7), id, strings.Repeat("c", room+1), "o", 5, api.ErrCborLong)
		refused(t, num(7), id, strings.Repeat("c", room), "oo", 5, api.ErrCborLong)
		refused(t, num(7), id, strings.Repeat("c", json), "o", 5, api.ErrCborLong)
		refused(t, num(7), id, strings.Repeat("c", json+1), "o", 5, api.ErrJsonLong)
		refused(t, num(7), id, "c", strings.Repeat("o", 1<<20), 5, api.ErrJsonLong)
	}
}

func TestP164WhichErrorIsNamedFirst(t *testing.T) {
	long := strings.Repeat("c", 1<<15)
	for _, challenge := range []string{"\xff", long, strings.Repeat("c", 5000)} {
		for _, d := range notPrivate() {
			refused(t, d, "id", challenge, "o", 5, api.ErrPasskeyKey)
			unanswered(t, d, challenge, "o", 6, api.ErrPasskeyKey)
		}
		refused(t, num(7), "", challenge, "o", 5, api.ErrPasskeyKey)
		refused(t, num(7), "", "c", challenge, 5, api.ErrPasskeyKey)
		refused(t, num(7), long, challenge, "o", 5, api.ErrPasskeyKey)
		refused(t, num(7), "id", challenge, "o", -1, api.ErrPasskeyKey)
		unanswered(t, num(7), challenge, "o", -1, api.ErrPasskeyKey)
		unanswered(t, num(7), "c", challenge, 1<<32, api.ErrPasskeyKey)
	}
	refused(t, num(0), "", "c", "o", -1, api.ErrPasskeyKey)
	unanswered(t, num(0), "c", "o", -1, api.ErrPasskeyKey)
}

func TestP165WhatFollows(t *testing.T) {
	by := rand.New(rand.NewSource(165))
	for range 60 {
		d, id, challenge, origin, count := anyPrivate(by), anyId(by), anyText(by), anyText(by), anyCount(by)
		a := enrols(t, d, id, challenge, origin, count)
		k, e := passkey.Register(a, challenge, origin)
		same(t, "Register", []any{k, e}, []any{keyOf(d, id, count), api.OK})
		same(t, "Check", passkey.Check(k), api.OK)
		// Another challenge at the second time, or the same one.
		later, rose := chance(by, challenge, anyText(by)), anyCount(by)
		data, client, sig := answers(t, d, later, origin, rose)
		n, e := passkey.Assert(k, later, origin, data, client, sig)
		same(t, "Assert", []any{n, e}, []any{rose, api.OK})
		for _, other := range []string{challenge + "x", challenge + "\xff", "other", challenge + strings.Repeat("x", 1<<15)} {
			registers(t, a, other, origin, api.ErrPasskeyOther)
			registers(t, a, challenge, origin+other, api.ErrPasskeyOther)
			asserts(t, k, later+other, origin, data, client, sig, api.ErrPasskeyOther)
			asserts(t, k, later, origin+other, data, client, sig, api.ErrPasskeyOther)
		}
		// What is said for one use isn't taken for the other.
		asserts(t, k, later, origin, data, clientOf("webauthn.create", later, origin), sig, api.ErrPasskeyOther)
	}
}

// What Enrol and Answer say at most is read, too.
func TestP165Longest(t *testing.T) {
	challenge := strings.Repeat("c", api.MaxJson-len(clientOf("webauthn.get", "", "")))
	data, client, sig := answers(t, num(7), challenge, "", 6)
	asserts(t, theKey(), challenge, "", data, client, sig, api.OK)
	challenge = strings.Repeat("c", api.MaxCbor-len(made(num(7), "id", "", "", 5).attestation())-1)
	registers(t, enrols(t, num(7), "id", challenge, "", 5), challenge, "", api.OK)
}
