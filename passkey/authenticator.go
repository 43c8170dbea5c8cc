package passkey

import (
	"seneschal/api"
	"seneschal/field"
	"seneschal/hash"
	"seneschal/sign"
)

// Enrol: the attestation that an authenticator says.
func Enrol(d api.Num, id, challenge, origin string, count int) (string, api.Errno) {
	var behind, client, attestation string
	e := first(
		func() api.Errno { return unless(isId(id) && isCount(count), api.ErrPasskeyKey) },
		func() (e api.Errno) { behind, e = enrolled(d, id); return e },
		func() (e api.Errno) { client, e = clientData{typeCreate, challenge, origin}.print(); return e },
		func() (e api.Errno) {
			data := authData{hash.Sum(origin), flagThere | flagKey, count, behind}
			attestation, e = attested{formatNone, data.print(), client}.print()
			return e
		},
	)
	return attestation, e
}

// enrolled: what stands behind the count, of the public key of a private one; ErrPasskeyKey, if that is none.
func enrolled(d api.Num, id string) (string, api.Errno) {
	q, e := sign.Public(d)
	if e != api.OK {
		return "", api.ErrPasskeyKey
	}
	key, e := public(field.Bytes(q.X), field.Bytes(q.Y))
	return keyBehind(id, key), e
}

// Answer: what an authenticator says when it is asked.
func Answer(d api.Num, challenge, origin string, count int) (data, client, sig string, e api.Errno) {
	e = first(
		func() api.Errno { return unless(isCount(count), api.ErrPasskeyKey) },
		func() api.Errno {
			_, e := sign.Public(d)
			return unless(e == api.OK, api.ErrPasskeyKey)
		},
		func() (e api.Errno) { client, e = clientData{typeGet, challenge, origin}.print(); return e },
		func() (e api.Errno) {
			data = authData{hash.Sum(origin), flagThere, count, ""}.print()
			sig, e = sign.Sign(d, signed(data, client))
			return e
		},
	)
	if e != api.OK {
		return "", "", "", e
	}
	return data, client, sig, api.OK
}
