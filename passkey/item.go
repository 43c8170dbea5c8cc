package passkey

import (
	"seneschal/api"
	"seneschal/cbor"
)

// Keys of an attestation, and the one format.
const (
	keyFormat  = "fmt"
	keyData    = "authData"
	keyClient  = "clientDataJSON"
	formatNone = "none"
)

// Keys of a public key, and what stands there ahead of X and Y: a point, for the signatures of layer 8, on their curve.
const (
	keyKind   = 1
	keyUse    = 3
	keyCurve  = -1
	keyX      = -2
	keyY      = -3
	kindPoint = 2
	useSign   = -7
	curveP256 = 1
)

// attested: what an attestation says.
type attested struct{ format, data, client string }

// print tells its bytes.
func (a attested) print() (string, api.Errno) {
	return cbor.Encode(pairs(
		words(keyFormat), words(a.format),
		words(keyData), octets(a.data),
		words(keyClient), octets(a.client),
	))
}

// read takes it from bytes.
func (a *attested) read(s string) api.Errno {
	v, _, e := cbor.Decode(s)
	format, _ := cbor.ByText(v, keyFormat)
	data, _ := cbor.ByText(v, keyData)
	client, _ := cbor.ByText(v, keyClient)
	*a = attested{format.Text, data.Text, client.Text}
	// An item has its bytes in one form: were anything more there, or of another kind, these would be others.
	again, _ := a.print()
	return unless(e == api.OK && again == s, api.ErrPasskeyText)
}

// public: the bytes of a public key of X and Y.
func public(x, y string) (string, api.Errno) {
	return cbor.Encode(pairs(
		integer(keyKind), integer(kindPoint),
		integer(keyUse), integer(useSign),
		integer(keyCurve), integer(curveP256),
		integer(keyX), octets(x),
		integer(keyY), octets(y),
	))
}

// xyOf the public key that has these bytes.
func xyOf(s string) (x, y string, e api.Errno) {
	v, _, e := cbor.Decode(s)
	itemX, _ := cbor.ByInt(v, keyX)
	itemY, _ := cbor.ByInt(v, keyY)
	// As of an attestation.
	again, _ := public(itemX.Text, itemY.Text)
	if e != api.OK || again != s {
		return "", "", api.ErrPasskeyText
	}
	return itemX.Text, itemY.Text, api.OK
}

// pairs: a map of keys and values by turns.
func pairs(l ...api.Cbor) api.Cbor { return api.Cbor{Kind: api.CborMap, List: l} }

func integer(n int) api.Cbor { return api.Cbor{Kind: api.CborInt, Num: n} }

func octets(s string) api.Cbor { return api.Cbor{Kind: api.CborBytes, Text: s} }

func words(s string) api.Cbor { return api.Cbor{Kind: api.CborText, Text: s} }
