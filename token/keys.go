package token

import (
	"seneschal/api"
	"seneschal/codec"
	"seneschal/sign"
)

// Keys: the ring's public keys as JSON.
func Keys(r *sign.Ring) string {
	l := api.Json{Kind: api.JsonList}
	for _, kid := range r.Kids() {
		q, _ := r.Public(kid)
		l.List = append(l.List, publicKey(kid, q))
	}
	return form(lay([]member{{"keys", l}}))
}

// publicKey as a value.
func publicKey(kid string, q api.Point) api.Json {
	what := []member{text("kty", "EC"), text("crv", "P-256")}
	use := []member{text(keyKid, kid), text(keyAlg, algSign), text("use", "sig")}
	point := []member{text("x", coordinate(q.X)), text("y", coordinate(q.Y))}
	return lay(what, use, point)
}

// coordinate: base64url of a number's 32 bytes, the highest first.
func coordinate(n api.Num) string {
	b := make([]byte, 0, 8*len(n))
	for i := range n {
		limb := n[len(n)-1-i]
		for shift := 56; shift >= 0; shift -= 8 {
			b = append(b, byte(limb>>shift))
		}
	}
	return codec.Base64(string(b))
}
