package passkey_test

import (
	"math/rand"
	"strings"
	"testing"

	"seneschal/api"
	"seneschal/passkey"
)

// theKey: the passkey of what is asked here.
func theKey() api.Key { return keyOf(num(7), "id", 5) }

// question: what an authenticator says when it is asked, of the challenge c and the origin o.
func question() saying { return asked("c", "o", 6) }

// signedSo: Assert of that, with something otherwise, and signed, answers that error.
func signedSo(t *testing.T, want api.Errno, change func(*saying)) {
	t.Helper()
	s := question().but(change)
	asserts(t, theKey(), "c", "o", s.data(), s.client, signedBy(t, num(7), s.signed()), want)
}

func TestP163Asserts(t *testing.T) {
	by := rand.New(rand.NewSource(163))
	for range 60 {
		d, challenge, origin, count := anyPrivate(by), anyText(by), anyText(by), anyCount(by)
		s := asked(challenge, origin, count)
		// The passkey's own count is not looked at.
		k := keyOf(d, anyId(by), anyCount(by))
		n, e := passkey.Assert(k, challenge, origin, s.data(), s.client, signedBy(t, d, s.signed()))
		same(t, "Assert", []any{n, e}, []any{count, api.OK})
	}
}

func TestP163Counts(t *testing.T) {
	for _, own := range []int{0, 5, 1<<32 - 1} {
		for _, n := range []int{0, 1, 4, 5, 6, 255, 256, 0x01020304, 1<<31 - 1, 1 << 31, 1<<32 - 1} {
			s := asked("c", "o", n)
			k := theKey()
			k.Count = own
			got, e := passkey.Assert(k, "c", "o", s.data(), s.client, signedBy(t, num(7), s.signed()))
			same(t, "Assert", []any{got, e}, []any{n, api.OK})
		}
	}
}

func TestP163ClientData(t *testing.T) {
	for _, client := range notClient("webauthn.get") {
		signedSo(t, api.ErrPasskeyText, func(s *saying) { s.client = client })
	}
	for _, client := range asClient("webauthn.get") {
		signedSo(t, api.OK, func(s *saying) { s.client = client })
	}
	for _, client := range otherClient("webauthn.get", "webauthn.create") {
		signedSo(t, api.ErrPasskeyOther, func(s *saying) { s.client = client })
	}
}

// A text of more than MaxJson bytes is none of JSON.
func TestP163LongClientData(t *testing.T) {
	for size, want := range map[int]api.Errno{api.MaxJson - 1: api.OK, api.MaxJson: api.OK, api.MaxJson + 1: api.ErrPasskeyText, 1 << 20: api.ErrPasskeyText} {
		signedSo(t, want, func(s *saying) { s.client = long("webauthn.get", size) })
	}
}

func TestP163Data(t *testing.T) {
	data := question().data()
	for size := range len(data) {
		s := question()
		asserts(t, theKey(), "c", "o", data[:size], s.client, signedBy(t, num(7), data[:size]+sumOf(s.client)), api.ErrPasskeyText)
	}
	for _, further := range []string{"\x00", "\xa0", data, strings.Repeat("\x00", 18), sample().data()[37:]} {
		signedSo(t, api.ErrPasskeyText, func(s *saying) { s.further = further })
		signedSo(t, api.ErrPasskeyText, func(s *saying) { s.flags, s.further = 65, further })
		signedSo(t, api.ErrPasskeyText, func(s *saying) { s.sum = further + s.sum })
	}
	// A key's data is no answer's.
	made := sample()
	asserts(t, theKey(), "c", "o", made.data(), question().client, signedBy(t, num(7), made.data()+sumOf(question().client)), api.ErrPasskeyText)
}

func TestP163Flags(t *testing.T) {
	for flags := range 256 {
		want := api.OK
		switch {
		case flags&64 != 0 || flags&128 != 0:
			want = api.ErrPasskeyText
		case flags&1 == 0:
			want = api.ErrPasskeyOther
		}
		signedSo(t, want, func(s *saying) { s.flags = byte(flags) })
	}
}

func TestP163ChallengesAndOrigins(t *testing.T) {
	s, k := question(), theKey()
	sig := signedBy(t, num(7), s.signed())
	for _, other := range []string{"", "C", "cc", "c ", "c\x00", "d", "\xff", "c\xff", strings.Repeat("c", 1<<16)} {
		asserts(t, k, other, "o", s.data(), s.client, sig, api.ErrPasskeyOther)
		asserts(t, k, "c", other, s.data(), s.client, sig, api.ErrPasskeyOther)
	}
	asserts(t, k, "o", "c", s.data(), s.client, sig, api.ErrPasskeyOther)
	// The client data and the sum each tell the origin.
	signedSo(t, api.ErrPasskeyOther, func(s *saying) { s.sum = sumOf("p") })
	p := question().but(func(s *saying) { s.sum = sumOf("p") })
	asserts(t, k, "c", "p", p.data(), p.client, signedBy(t, num(7), p.signed()), api.ErrPasskeyOther)
	for i := range 32 {
		signedSo(t, api.ErrPasskeyOther, func(s *saying) { s.sum = s.sum[:i] + string([]byte{s.sum[i] ^ 128}) + s.sum[i+1:] })
	}
}

func TestP163Signatures(t *testing.T) {
	s, k := question(), theKey()
	data, client := s.data(), s.client
	sig := signedBy(t, num(7), s.signed())
	asserts(t, k, "c", "o", data, client, sig, api.OK)
	// Chapter 8's words take this one, too.
	asserts(t, k, "c", "o", data, client, turned(sig), api.OK)
	zero := strings.Repeat("\x00", 32)
	for _, other := range []string{
		"", sig[:63], sig[1:], sig + "\x00", "\x00" + sig, sig + sig, sig[32:] + sig[:32], zero + zero, sig[:32] + zero, zero + sig[32:], strings.Repeat("\xff", 64), octets(theN()) + sig[32:], sig[:32] + octets(theN()), base(sig), "\x30\x44\x02\x20" + sig[:32] + "\x02\x20" + sig[32:], strings.Repeat("x", 1<<20),
		// Of something else than of the data and the sum of the client data.
		signedBy(t, num(7), ""), signedBy(t, num(7), data), signedBy(t, num(7), client), signedBy(t, num(7), sumOf(client)), signedBy(t, num(7), data+client), signedBy(t, num(7), sumOf(client)+data), signedBy(t, num(7), sumOf(data)+sumOf(client)), signedBy(t, num(7), sumOf(data+sumOf(client))), signedBy(t, num(7), data+sumOf(client)+"\x00"),
		signedBy(t, num(7), asked("c", "o", 7).signed()), signedBy(t, num(7), asked("d", "o", 6).signed()), signedBy(t, num(8), s.signed()),
	} {
		asserts(t, k, "c", "o", data, client, other, api.ErrPasskeySign)
	}
	// The client data's bytes count, not what they say.
	asserts(t, k, "c", "o", data, client+" ", sig, api.ErrPasskeySign)
	asserts(t, k, "c", "o", question().but(func(s *saying) { s.flags = 5 }).data(), client, sig, api.ErrPasskeySign)
	asserts(t, keyOf(num(8), "id", 5), "c", "o", data, client, sig, api.ErrPasskeySign)
	opposite := k
	opposite.Y = octets(theP().Sub(theP(), fromOctets(k.Y)))
	asserts(t, opposite, "c", "o", data, client, sig, api.ErrPasskeySign)
}

// Of several errors the one that is named first is told.
func TestP163WhichErrorIsNamedFirst(t *testing.T) {
	k, bad := theKey(), theKey()
	bad.Id = "="
	texts := []func(*saying){
		func(s *saying) { s.client = "" },
		func(s *saying) { s.client = `{"type":"x","challenge":"y","origin":7}` },
		func(s *saying) { s.sum = "" },
		func(s *saying) { s.further = "\x00" },
		func(s *saying) { s.flags |= 64 },
		func(s *saying) { s.flags |= 128 },
	}
	others := []func(*saying){
		func(s *saying) { s.client = clientOf("webauthn.create", "c", "o") },
		func(s *saying) { s.client = clientOf("webauthn.get", "d", "o") },
		func(s *saying) { s.client = clientOf("webauthn.get", "c", "p") },
		func(s *saying) { s.sum = sumOf("p") },
		func(s *saying) { s.flags &^= 1 },
	}
	both := func(one, two func(*saying), key api.Key, want api.Errno) {
		t.Helper()
		s := question().but(one).but(two)
		asserts(t, key, "c", "o", s.data(), s.client, "", want)
		asserts(t, key, "c", "o", s.data(), s.client, signedBy(t, num(7), s.signed()), want)
	}
	for _, text := range texts {
		for _, second := range append(others, texts...) {
			both(second, text, bad, api.ErrPasskeyKey)
		}
		for _, second := range texts {
			both(second, text, k, api.ErrPasskeyText)
		}
	}
	for _, other := range others {
		both(other, other, bad, api.ErrPasskeyKey)
		both(other, texts[2], k, api.ErrPasskeyText)
		both(other, texts[3], k, api.ErrPasskeyText)
		both(other, texts[4], k, api.ErrPasskeyText)
		both(other, texts[0], k, api.ErrPasskeyText)
		for _, second := range others {
			both(other, second, k, api.ErrPasskeyOther)
		}
	}
	s := question()
	asserts(t, bad, "c", "o", s.data(), s.client, "", api.ErrPasskeyKey)
	asserts(t, k, "c", "o", s.data(), s.client, "", api.ErrPasskeySign)
}

func TestP163EachByteOtherwise(t *testing.T) {
	k, s := theKey(), question()
	parts := []string{s.data(), s.client, signedBy(t, num(7), s.signed()), k.X, k.Y, k.Id}
	counts := map[api.Errno]int{}
	for p, part := range parts {
		for i := range part {
			for _, c := range []byte{part[i] ^ 1, part[i] ^ 128, part[i] ^ 7} {
				other := append([]string{}, parts...)
				other[p] = part[:i] + string([]byte{c}) + part[i+1:]
				changed := api.Key{Id: other[5], X: other[3], Y: other[4]}
				counts[holds(t, changed, "c", "o", other[0], other[1], other[2])]++
			}
		}
	}
	for e, least := range map[api.Errno]int{api.OK: 1, api.ErrPasskeyKey: 100, api.ErrPasskeyText: 50, api.ErrPasskeyOther: 50, api.ErrPasskeySign: 150} {
		if counts[e] < least {
			t.Errorf("%d came %d times", e, counts[e])
		}
	}
}
