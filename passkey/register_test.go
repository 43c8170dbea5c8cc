package passkey_test

import (
	"math/big"
	"math/rand"
	"strings"
	"testing"

	"seneschal/api"
	"seneschal/passkey"
)

// sample: what an authenticator says of a key that is made, of the challenge c and the origin o.
func sample() saying { return made(num(7), "id", "c", "o", 5) }

// otherwise: Register of that sample, with something otherwise, answers that error.
func otherwise(t *testing.T, want api.Errno, change func(*saying)) {
	t.Helper()
	registers(t, sample().but(change).attestation(), "c", "o", want)
}

func TestP162Registers(t *testing.T) {
	by := rand.New(rand.NewSource(162))
	for range 100 {
		d, id, challenge, origin, count := anyPrivate(by), anyId(by), anyText(by), anyText(by), anyCount(by)
		s := made(d, id, challenge, origin, count)
		k, e := passkey.Register(s.attestation(), challenge, origin)
		same(t, "Register", []any{k, e}, []any{keyOf(d, id, count), api.OK})
		s.any = anyId(by) + strings.Repeat("x", 16)
		s.any = s.any[:16]
		registers(t, s.attestation(), challenge, origin, api.OK)
	}
}

func TestP162Attestations(t *testing.T) {
	s := sample()
	form, data, client := textItem("fmt")+textItem("none"), textItem("authData")+bytesItem(s.data()), textItem("clientDataJSON")+bytesItem(s.client)
	good := "\xa3" + form + data + client
	same(t, "the sample", s.attestation(), good)
	registers(t, good, "c", "o", api.OK)
	for _, a := range []string{
		"", "\x00", "\xf6", "\xa0", "\x83" + form, good + "\x00", good + good, good[:len(good)-1], good[1:], "\x00" + good, "\xa3", "\xa3" + form, "\x81" + good, "\xa1\x00" + good, bytesItem(good), s.client, s.data(),
		"\xa2" + form + data, "\xa2" + form + client, "\xa2" + data + client, "\xa1" + form, "\xa2" + form + data + client, "\xa4" + form + data + client,
		"\xa3" + data + form + client, "\xa3" + form + client + data, "\xa3" + client + data + form, "\xa3" + form + form + data, "\xa3" + form + data + data, "\xa4" + form + data + client + client,
		"\xa4\x00\x00" + form + data + client, "\xa4\x20\x00" + form + data + client, "\xa4" + form + textItem("attStmt") + "\xa0" + data + client, "\xa4" + form + data + client + textItem("clientDataJSOO") + "\x00", "\xa4" + textItem("") + "\x00" + form + data + client,
		"\xa3" + textItem("Fmt") + textItem("none") + data + client, "\xa3" + textItem("fmu") + textItem("none") + data + client, "\xa3" + bytesItem("fmt") + textItem("none") + data + client, "\xa3\x00" + textItem("none") + data + client,
		"\xa3" + form + textItem("authdata") + bytesItem(s.data()) + client, "\xa3" + form + data + textItem("clientDataJson") + bytesItem(s.client), "\xa3" + form + data + textItem("clientData") + bytesItem(s.client),
		"\xa3" + textItem("fmt") + bytesItem("none") + data + client, "\xa3" + textItem("fmt") + "\x00" + data + client, "\xa3" + textItem("fmt") + "\xa0" + data + client, "\xa3" + textItem("fmt") + "\x80" + data + client, "\xa3" + textItem("fmt") + "\xf6" + data + client, "\xa3" + textItem("fmt") + "\x64non\xff" + data + client,
		"\xa3" + form + textItem("authData") + "\x81" + bytesItem(s.data()) + client, "\xa3" + form + textItem("authData") + textItem("data") + client, "\xa3" + form + textItem("authData") + "\x00" + client, "\xa3" + form + textItem("authData") + "\xa0" + client,
		"\xa3" + form + data + textItem("clientDataJSON") + textItem(s.client), "\xa3" + form + data + textItem("clientDataJSON") + "\x81" + bytesItem(s.client), "\xa3" + form + data + textItem("clientDataJSON") + "\x07",
		// Heads longer than they have to be, and an item without an end.
		"\xb8\x03" + form + data + client, "\xa3" + textItem("fmt") + "\x78\x04none" + data + client, "\xa3\x78\x03fmt" + textItem("none") + data + client, "\xa3" + form + textItem("authData") + "\x59" + bigEnd(len(s.data()), 2) + s.data() + client, "\xbf" + form + data + client + "\xff",
		strings.Repeat("\x81", 17) + "\x00", strings.Repeat("\xff", 4097), good + strings.Repeat("\x00", 4096),
	} {
		registers(t, a, "c", "o", api.ErrPasskeyText)
	}
}

// An attestation is an item, of which there is none of more than MaxCbor bytes.
func TestP162LongAttestations(t *testing.T) {
	of := func(size int) string {
		for pad := size - 400; ; pad++ {
			a := made(num(7), "id", strings.Repeat("c", pad), "o", 5).attestation()
			if len(a) >= size {
				same(t, "the length", len(a), size)
				return a
			}
		}
	}
	for size, want := range map[int]api.Errno{4095: api.ErrPasskeyOther, 4096: api.ErrPasskeyOther, 4097: api.ErrPasskeyText, 5000: api.ErrPasskeyText} {
		registers(t, of(size), "c", "o", want)
	}
}

func TestP162Formats(t *testing.T) {
	for _, format := range []string{"", "None", "none ", "non", "packed", "fido-u2f", "nonf", "none\x00", "é", strings.Repeat("none", 50)} {
		otherwise(t, api.ErrPasskeyOther, func(s *saying) { s.format = format })
	}
}

func TestP162ClientData(t *testing.T) {
	for _, client := range notClient("webauthn.create") {
		otherwise(t, api.ErrPasskeyText, func(s *saying) { s.client = client })
	}
	for _, client := range asClient("webauthn.create") {
		otherwise(t, api.OK, func(s *saying) { s.client = client })
	}
	for _, client := range otherClient("webauthn.create", "webauthn.get") {
		otherwise(t, api.ErrPasskeyOther, func(s *saying) { s.client = client })
	}
}

func TestP162ChallengesAndOrigins(t *testing.T) {
	a := sample().attestation()
	for _, other := range []string{"", "C", "cc", "c ", "c\x00", "d", "\xff", "c\xff", "o", strings.Repeat("c", 1<<16)} {
		registers(t, a, other, "o", api.ErrPasskeyOther)
		if other != "o" {
			registers(t, a, "c", other, api.ErrPasskeyOther)
		}
	}
	registers(t, a, "o", "c", api.ErrPasskeyOther)
	// The client data and the sum each tell the origin.
	otherwise(t, api.ErrPasskeyOther, func(s *saying) { s.sum = sumOf("p") })
	otherwise(t, api.ErrPasskeyOther, func(s *saying) { s.client = clientOf("webauthn.create", "c", "p") })
	registers(t, sample().but(func(s *saying) { s.sum = sumOf("p") }).attestation(), "c", "p", api.ErrPasskeyOther)
	registers(t, sample().but(func(s *saying) { s.sum = sumOf("\xff") }).attestation(), "c", "\xff", api.ErrPasskeyOther)
	registers(t, made(num(7), "id", "", "", 5).attestation(), "", "", api.OK)
	for i := range 32 {
		otherwise(t, api.ErrPasskeyOther, func(s *saying) { s.sum = s.sum[:i] + string([]byte{s.sum[i] ^ 1}) + s.sum[i+1:] })
	}
}

func TestP162Flags(t *testing.T) {
	for flags := range 256 {
		want := api.OK
		switch {
		case flags&64 == 0 || flags&128 != 0:
			want = api.ErrPasskeyText
		case flags&1 == 0:
			want = api.ErrPasskeyOther
		}
		otherwise(t, want, func(s *saying) { s.flags = byte(flags) })
	}
}

func TestP162Counts(t *testing.T) {
	for _, n := range []int{0, 1, 255, 256, 65536, 1 << 24, 0x01020304, 1<<31 - 1, 1 << 31, 1<<32 - 1} {
		k, e := passkey.Register(sample().but(func(s *saying) { s.count = n }).attestation(), "c", "o")
		same(t, "Register", []any{k, e}, []any{keyOf(num(7), "id", n), api.OK})
	}
}

func TestP162LengthsOfData(t *testing.T) {
	s := sample()
	data := s.data()
	for size := range len(data) {
		a := "\xa3" + textItem("fmt") + textItem("none") + textItem("authData") + bytesItem(data[:size]) + textItem("clientDataJSON") + bytesItem(s.client)
		registers(t, a, "c", "o", api.ErrPasskeyText)
	}
	for _, further := range []string{"\x00", "\xa0", data, data[37:], data[55:], strings.Repeat("\x00", 77), strings.Repeat("\xff", 1000)} {
		otherwise(t, api.ErrPasskeyText, func(s *saying) { s.further = further })
		otherwise(t, api.ErrPasskeyText, func(s *saying) { s.any = further + s.any })
	}
	otherwise(t, api.ErrPasskeyText, func(s *saying) { s.any = s.any[1:] })
	otherwise(t, api.ErrPasskeyText, func(s *saying) { s.any = "" })
}

func TestP162Ids(t *testing.T) {
	for _, size := range []int{0, 1, 2, 23, 24, 63, 64, 65, 128, 255, 256, 257, 320, 1000} {
		want := api.OK
		if size < 1 || size > 64 {
			want = api.ErrPasskeyText
		}
		id := strings.Repeat("\xfe", size)
		registers(t, made(num(7), id, "c", "o", 5).attestation(), "c", "o", want)
		// Of another length than there are bytes.
		for _, length := range []int{0, 1, 2, 3, 64, 65, 79, 256, 257, 65535} {
			if length != size {
				registers(t, made(num(7), id, "c", "o", 5).but(func(s *saying) { s.length = bigEnd(length, 2) }).attestation(), "c", "o", api.ErrPasskeyText)
			}
		}
	}
	// The higher byte comes first.
	otherwise(t, api.ErrPasskeyText, func(s *saying) { s.length = "\x02\x00" })
	otherwise(t, api.ErrPasskeyText, func(s *saying) { s.length = "\x02" })
	otherwise(t, api.ErrPasskeyText, func(s *saying) { s.length = "\x00\x00\x02" })
	// The id may be any bytes.
	for b := range 256 {
		otherwise(t, api.OK, func(s *saying) { s.id = string([]byte{byte(b), byte(255 - b)}) })
	}
}

func TestP162PublicKeys(t *testing.T) {
	x, y := publicOf(num(7))
	good := aheadX + x + aheadY + y
	public := func(want api.Errno, s string) {
		t.Helper()
		otherwise(t, want, func(m *saying) { m.public = s })
	}
	public(api.OK, good)
	for _, s := range []string{
		"", good[1:], good[:len(good)-1], good + "\x00", good + good, "\x04" + x + y, x + y, "\xa0", "\xa2\x21" + bytesItem(x) + "\x22" + bytesItem(y), "\x81" + good, bytesItem(good),
		// Members that are missing, more of them, and others in their places.
		"\xa4\x03\x26\x20\x01\x21\x58\x20" + x + aheadY + y, "\xa4\x01\x02\x20\x01\x21\x58\x20" + x + aheadY + y, "\xa4\x01\x02\x03\x26\x21\x58\x20" + x + aheadY + y, "\xa4\x01\x02\x03\x26\x20\x01" + aheadY + y, "\xa4" + aheadX[1:] + x,
		"\xa6" + good[1:] + "\x23\x00", "\xa6\x01\x02\x02\x00" + good[3:], "\xa6\x00\x00" + good[1:], "\xa6" + good[1:] + "\x60\x00", "\xa6" + good[1:] + aheadY + y,
		"\xa5\x01\x02\x03\x26\x20\x01\x22" + bytesItem(y) + "\x21" + bytesItem(x), "\xa5\x03\x26\x01\x02" + good[5:], "\xa5\x20\x01\x01\x02\x03\x26" + good[7:],
		"\xa5\x01\x03" + good[3:], "\xa5\x01\x01" + good[3:], "\xa5\x01\x02\x03\x27" + good[5:], "\xa5\x01\x02\x03\x07" + good[5:], "\xa5\x01\x02\x03\x26\x20\x02" + good[7:], "\xa5\x01\x02\x03\x26\x20\x20" + good[7:], "\xa5\x02\x02" + good[3:], "\xa5\x01\x02\x04\x26" + good[5:], "\xa5\x01\x41\x02" + good[3:], "\xa5\x01\x61\x32" + good[3:],
		// X and Y of other kinds, and of other lengths.
		"\xa5\x01\x02\x03\x26\x20\x01\x21\x00" + aheadY + y, aheadX + x + "\x22\x00", aheadX + x + "\x22\xf5", aheadX + x + "\x22\x80", "\xa5\x01\x02\x03\x26\x20\x01\x21\x60\x22\x60", "\xa5\x01\x02\x03\x26\x20\x01\x21\x40\x22\x40", aheadX[:8] + "\x78\x20" + strings.Repeat("x", 32) + aheadY + y,
		aheadX[:8] + bytesItem(x[1:]) + aheadY + y, aheadX[:8] + bytesItem(x+"\x00") + aheadY + y, aheadX[:8] + bytesItem("\x00"+x) + aheadY + y, aheadX + x + "\x22" + bytesItem(y[1:]), aheadX + x + "\x22" + bytesItem(y+"\x00"), aheadX[:8] + bytesItem(x+y[:1]) + "\x22" + bytesItem(y[1:]), aheadX[:8] + "\x59\x00\x20" + x + aheadY + y, aheadX + x + "\x22\x59\x00\x20" + y,
		// No points of the curve.
		aheadX + y + aheadY + x, aheadX + x + aheadY + x, aheadX + strings.Repeat("\x00", 32) + aheadY + strings.Repeat("\x00", 32), aheadX + octets(theP()) + aheadY + y, aheadX + x + aheadY + octets(theP()), aheadX + octets(big.NewInt(1)) + aheadY + octets(big.NewInt(1)), aheadX + strings.Repeat("\xff", 32) + aheadY + strings.Repeat("\xff", 32),
	} {
		public(api.ErrPasskeyText, s)
	}
	public(api.OK, aheadX+x+aheadY+octets(new(big.Int).Sub(theP(), fromOctets(y))))
	low, its := pointAt(5)
	public(api.OK, aheadX+octets(low)+aheadY+octets(its))
	public(api.ErrPasskeyText, aheadX+octets(new(big.Int).Add(low, theP()))+aheadY+octets(its))
}

// faults: one of each kind that ErrPasskeyText tells, and one of each that ErrPasskeyOther does.
func faults() (texts, others []func(*saying)) {
	texts = []func(*saying){
		func(s *saying) { s.format = "\xff" },
		func(s *saying) { s.client = "" },
		func(s *saying) { s.client = `{"type":"x","challenge":"y"}` },
		func(s *saying) { s.flags &^= 64 },
		func(s *saying) { s.flags |= 128 },
		func(s *saying) { s.further = "\x00" },
		func(s *saying) { s.length = "\x00\x00" },
		func(s *saying) { s.id = "i" },
		func(s *saying) { s.public = s.public[1:] },
		func(s *saying) { s.public = s.public[:len(s.public)-1] + "\x00" },
	}
	others = []func(*saying){
		func(s *saying) { s.format = "packed" },
		func(s *saying) { s.client = clientOf("webauthn.get", "c", "o") },
		func(s *saying) { s.client = clientOf("webauthn.create", "d", "o") },
		func(s *saying) { s.client = clientOf("webauthn.create", "c", "p") },
		func(s *saying) { s.sum = sumOf("p") },
		func(s *saying) { s.flags &^= 1 },
	}
	return texts, others
}

func TestP162WhichErrorIsNamedFirst(t *testing.T) {
	texts, others := faults()
	for _, text := range texts {
		otherwise(t, api.ErrPasskeyText, text)
		for _, other := range append(others, texts...) {
			registers(t, sample().but(other).but(text).attestation(), "c", "o", api.ErrPasskeyText)
			registers(t, sample().but(text).but(func(s *saying) { s.sum = "" }).attestation(), "c", "o", api.ErrPasskeyText)
		}
		registers(t, sample().but(text).attestation(), "x", "y", api.ErrPasskeyText)
	}
	for _, other := range others {
		otherwise(t, api.ErrPasskeyOther, other)
		for _, second := range others {
			registers(t, sample().but(other).but(second).attestation(), "c", "o", api.ErrPasskeyOther)
		}
	}
}

func TestP162EachByteOtherwise(t *testing.T) {
	a := sample().attestation()
	counts := map[api.Errno]int{}
	for i := range a {
		for _, c := range []byte{a[i] ^ 1, a[i] ^ 128, a[i] + 1, 0, 255, '"', 'x'} {
			counts[agrees(t, a[:i]+string([]byte{c})+a[i+1:], "c", "o")]++
		}
		registers(t, a[:i], "c", "o", api.ErrPasskeyText)
		if i > 0 {
			registers(t, a[i:], "c", "o", api.ErrPasskeyText)
		}
		agrees(t, a[:i]+a[i+1:], "c", "o")
		agrees(t, a[:i+1]+a[i:], "c", "o")
	}
	for _, e := range []api.Errno{api.OK, api.ErrPasskeyText, api.ErrPasskeyOther} {
		if counts[e] < 50 {
			t.Errorf("%d came %d times", e, counts[e])
		}
	}
}
