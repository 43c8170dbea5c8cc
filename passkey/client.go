package passkey

import (
	"seneschal/api"
	"seneschal/json"
)

// What client data has, and the types of its two uses.
const (
	memberType      = "type"
	memberChallenge = "challenge"
	memberOrigin    = "origin"
	typeCreate      = "webauthn.create"
	typeGet         = "webauthn.get"
)

// clientData: what it says.
type clientData struct{ use, challenge, origin string }

// print tells its form.
func (c clientData) print() (string, api.Errno) {
	return json.Print(api.Json{
		Kind: api.JsonObject,
		Keys: []string{memberType, memberChallenge, memberOrigin},
		List: []api.Json{text(c.use), text(c.challenge), text(c.origin)},
	})
}

// read takes what JSON says, whatever else it has.
func (c *clientData) read(s string) api.Errno {
	v, e := json.Parse(s)
	use, isUse := textOf(v, memberType)
	challenge, isChallenge := textOf(v, memberChallenge)
	origin, isOrigin := textOf(v, memberOrigin)
	*c = clientData{use, challenge, origin}
	return unless(e == api.OK && isUse && isChallenge && isOrigin, api.ErrPasskeyText)
}

func text(s string) api.Json { return api.Json{Kind: api.JsonText, Text: s} }

// textOf a member, and whether it is one.
func textOf(v api.Json, key string) (string, bool) {
	m, ok := json.Member(v, key)
	return m.Text, ok && m.Kind == api.JsonText
}
