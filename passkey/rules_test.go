package passkey_test

import (
	"math/rand"
	"strings"
	"sync"
	"testing"
	"unsafe"

	"seneschal/api"
	"seneschal/field"
	"seneschal/passkey"
)

// volatile: a text whose bytes become other ones by spoil, as if somebody else took its memory.
type volatile struct{ all [][]byte }

func (v *volatile) text(s string) string {
	b := append([]byte(s), 0)[:len(s)]
	v.all = append(v.all, b)
	return unsafe.String(unsafe.SliceData(b), len(b))
}

func (v *volatile) spoil() {
	for _, b := range v.all {
		for i := range b {
			b[i] = 'X'
		}
	}
}

func TestR4WhatIsAnsweredIsNew(t *testing.T) {
	var v volatile
	id, c, o := v.text("id"), v.text("c"), v.text("o")
	a := enrols(t, num(7), id, c, o, 5)
	given := v.text(a)
	k, e := passkey.Register(given, c, o)
	same(t, "Register", e, api.OK)
	data, client, sig := answers(t, num(7), c, o, 6)
	in := api.Key{Id: v.text(k.Id), X: v.text(k.X), Y: v.text(k.Y), Count: 5}
	n, e := passkey.Assert(in, c, o, v.text(data), v.text(client), v.text(sig))
	same(t, "Assert", []any{n, e}, []any{6, api.OK})
	same(t, "Check", passkey.Check(in), api.OK)
	same(t, "what was handed in", []any{id, c, o, given, in}, []any{"id", "c", "o", sample().attestation(), theKey()})
	v.spoil()
	s := question()
	same(t, "Enrol", a, sample().attestation())
	same(t, "Register", k, theKey())
	same(t, "Answer", []string{data, client, sig}, []string{s.data(), s.client, signedBy(t, num(7), s.signed())})
}

// R5: what else is called shows in no answer.
func TestR5NothingIsKept(t *testing.T) {
	s := question()
	sig := signedBy(t, num(7), s.signed())
	for range 3 {
		registers(t, sample().attestation(), "c", "o", api.OK)
		registers(t, sample().attestation(), "d", "o", api.ErrPasskeyOther)
		registers(t, "", "c", "o", api.ErrPasskeyText)
		// What was asserted is so again: that a count rises, and that a challenge is spent, is looked at elsewhere.
		asserts(t, theKey(), "c", "o", s.data(), s.client, sig, api.OK)
		asserts(t, theKey(), "c", "o", s.data(), s.client, "", api.ErrPasskeySign)
		asserts(t, api.Key{}, "c", "o", s.data(), s.client, sig, api.ErrPasskeyKey)
		same(t, "Enrol", enrols(t, num(7), "id", "c", "o", 5), sample().attestation())
		refused(t, num(0), "id", "c", "o", 5, api.ErrPasskeyKey)
		data, client, again := answers(t, num(7), "c", "o", 6)
		same(t, "Answer", []string{data, client, again}, []string{s.data(), s.client, sig})
	}
}

func TestR5AskedAtTheSameTime(t *testing.T) {
	var all sync.WaitGroup
	for i := range 8 {
		all.Go(func() {
			by := rand.New(rand.NewSource(int64(i)))
			for range 4 {
				d, id, challenge, origin, count := anyPrivate(by), anyId(by), anyText(by), anyText(by), anyCount(by)
				registers(t, enrols(t, d, id, challenge, origin, count), challenge, origin, api.OK)
				data, client, sig := answers(t, d, challenge, origin, count)
				asserts(t, keyOf(d, id, 0), challenge, origin, data, client, sig, api.OK)
			}
		})
	}
	all.Wait()
}

// muddled: a text with a part of it out of it, or twice, or another one in it.
func muddled(by *rand.Rand, s string) string {
	at := by.Intn(len(s) + 1)
	end := min(len(s), at+by.Intn(6))
	return s[:at] + chance(by, "", "\x00", "\x01", "\x40", "\x41", "\xff", "\xa0", "c", `"`, `,"a":1`, `{`, "}", "o", s[at:end]+s[at:end]) + s[end:]
}

// Parts of what is said are muddled, ahead of their being put together.
func TestP162AndP163ByChance(t *testing.T) {
	by := rand.New(rand.NewSource(2))
	counts := map[string]map[api.Errno]int{"Register": {}, "Assert": {}}
	for range 6000 {
		s := made(num(7), anyId(by), "c", "o", anyCount(by))
		for range 1 + by.Intn(2) {
			part := chance(by, &s.client, &s.client, &s.format, &s.sum, &s.any, &s.length, &s.id, &s.public, &s.further)
			*part = muddled(by, *part)
		}
		s.flags = chance[byte](by, 65, 65, 65, 69, 1, 64, 193)
		counts["Register"][agrees(t, s.attestation(), chance(by, "c", "c", "c", "d"), "o")]++
	}
	for range 600 {
		s := question()
		if by.Intn(2) == 0 {
			part := chance(by, &s.client, &s.client, &s.client, &s.sum, &s.further)
			*part = muddled(by, *part)
		}
		s.flags = chance[byte](by, 1, 1, 1, 5, 0, 65, 129)
		k := theKey()
		if by.Intn(6) == 0 {
			k.Id = muddled(by, k.Id)
		}
		counts["Assert"][holds(t, k, chance(by, "c", "c", "c", "d"), "o", s.data(), s.client, signedBy(t, num(chance[int64](by, 7, 7, 8)), s.signed()))]++
	}
	for call, l := range map[string][]api.Errno{"Register": {api.OK, api.ErrPasskeyText, api.ErrPasskeyOther}, "Assert": {api.OK, api.ErrPasskeyKey, api.ErrPasskeyText, api.ErrPasskeyOther, api.ErrPasskeySign}} {
		for _, e := range l {
			if counts[call][e] < 15 {
				t.Errorf("%s: %d came %d times", call, e, counts[call][e])
			}
		}
	}
}

func FuzzR1EndsAtAnything(f *testing.F) {
	s, q := sample(), question()
	f.Add(s.attestation(), s.data(), s.client, "", "c", "o", "id", 5, uint64(7), uint64(0))
	f.Add("", q.data(), q.client, signedBy(f, num(7), q.signed()), "c", "o", strings.Repeat("i", 65), 1<<32, uint64(0), uint64(0))
	f.Add(strings.Repeat("\x81", 20), "\xff", "[[", "\x00", "\xff", "", "", -1, uint64(1), uint64(1<<63))
	f.Fuzz(func(t *testing.T, attestation, data, client, sig, challenge, origin, id string, count int, low, high uint64) {
		agrees(t, attestation, challenge, origin)
		agrees(t, "\xa3"+textItem("fmt")+textItem("none")+textItem("authData")+bytesItem(data)+textItem("clientDataJSON")+bytesItem(client), challenge, origin)
		holds(t, theKey(), challenge, origin, data, client, sig)
		d := api.Num{low, 0, 0, high}
		k := api.Key{Id: base(id), X: field.Bytes(d), Y: sig, Count: count}
		same(t, "Check", passkey.Check(k) == api.OK, isKey(k))
		holds(t, k, challenge, origin, data, client, sig)
		if a, e := passkey.Enrol(d, id, challenge, origin, count); e == api.OK {
			same(t, "Enrol", a, made(d, id, challenge, origin, count).attestation())
			registers(t, a, challenge, origin, api.OK)
		} else {
			same(t, "Enrol", a, "")
		}
		if data, client, sig, e := passkey.Answer(d, challenge, origin, count); e == api.OK {
			asserts(t, keyOf(d, "id", 0), challenge, origin, data, client, sig, api.OK)
		} else {
			same(t, "Answer", []string{data, client, sig}, []string{"", "", ""})
		}
	})
}
