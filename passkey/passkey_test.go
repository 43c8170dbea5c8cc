package passkey_test

import (
	"testing"

	"seneschal/api"
	"seneschal/passkey"
)

func TestExamples(t *testing.T) {
	a := enrols(t, num(7), "id", "c", "o", 5)
	k, e := passkey.Register(a, "c", "o")
	x, y := publicOf(num(7))
	same(t, "Register", []any{k, e}, []any{api.Key{Id: "aWQ", X: x, Y: y, Count: 5}, api.OK})
	for _, c := range []struct {
		attestation, challenge, origin string
		want                           api.Errno
	}{{a, "d", "o", api.ErrPasskeyOther}, {a, "c", "p", api.ErrPasskeyOther}, {"", "c", "o", api.ErrPasskeyText}, {a + "x", "c", "o", api.ErrPasskeyText}} {
		k, e := passkey.Register(c.attestation, c.challenge, c.origin)
		same(t, "Register", []any{k, e}, []any{api.Key{}, c.want})
	}
	data, client, sig := answers(t, num(7), "c", "o", 6)
	n, e := passkey.Assert(k, "c", "o", data, client, sig)
	same(t, "Assert", []any{n, e}, []any{6, api.OK})
	n, e = passkey.Assert(k, "c", "o", data, client, "")
	same(t, "without a signature", []any{n, e}, []any{0, api.ErrPasskeySign})
	data, client, sig = answers(t, num(8), "c", "o", 6)
	n, e = passkey.Assert(k, "c", "o", data, client, sig)
	same(t, "by another key", []any{n, e}, []any{0, api.ErrPasskeySign})
	same(t, "Check", passkey.Check(k), api.OK)
	for _, bad := range []api.Key{{Id: k.Id, X: k.X[1:], Y: k.Y, Count: 5}, {Id: k.Id, X: k.X, Y: k.Y, Count: -1}, {Id: "=", X: k.X, Y: k.Y, Count: 5}} {
		same(t, "Check", passkey.Check(bad), api.ErrPasskeyKey)
	}
}
