package token

import (
	"strings"

	"seneschal/api"
	"seneschal/json"
)

// blank stands between the words of a scope.
const blank = " "

// The keys of a body's members.
const (
	keyIss    = "iss"
	keySub    = "sub"
	keyAud    = "aud"
	keyClient = "client_id"
	keyJti    = "jti"
	keyIat    = "iat"
	keyExp    = "exp"
	keyScope  = "scope"
	keyLevel  = "level"
	keyAct    = "act"
	keyNonce  = "nonce"
)

// body of claims that may be.
func body(c api.Claims) string {
	return form(lay(names(c), times(c), rights(c), actors(c.Act), nonce(c.Nonce)))
}

// names: who says it, of whom, to whom, and of what.
func names(c api.Claims) []member {
	return []member{text(keyIss, c.Iss), text(keySub, c.Sub), text(keyAud, c.Aud), text(keyClient, c.Client), text(keyJti, c.Jti)}
}

// times: from when to when.
func times(c api.Claims) []member { return []member{number(keyIat, c.Iat), number(keyExp, c.Exp)} }

// rights: what may be done, and how it was proved.
func rights(c api.Claims) []member {
	return []member{text(keyScope, strings.Join(c.Scope, blank)), number(keyLevel, c.Level)}
}

// actors: who acts, each within the one that acted later.
func actors(l []string) []member {
	if len(l) == 0 {
		return nil
	}
	return []member{{keyAct, lay([]member{text(keySub, l[0])}, actors(l[1:]))}}
}

// nonce: none, if it is empty.
func nonce(s string) []member {
	if s == "" {
		return nil
	}
	return []member{text(keyNonce, s)}
}

// claims whose body s is, and whether it is one of claims that may be.
func claims(s string) (api.Claims, bool) {
	v, e := json.Parse(s)
	if e != api.OK {
		return api.Claims{}, false
	}
	c := toldBy(v)
	// What is told is taken loosely; that nothing else stands there, and nothing otherwise, shows by laying it again.
	if Check(c) != api.OK || body(c) != s {
		return api.Claims{}, false
	}
	return c, true
}

// toldBy: the claims that a value's members tell.
func toldBy(v api.Json) api.Claims {
	return api.Claims{
		Iss:    textOf(v, keyIss),
		Sub:    textOf(v, keySub),
		Aud:    textOf(v, keyAud),
		Client: textOf(v, keyClient),
		Jti:    textOf(v, keyJti),
		Iat:    numberOf(v, keyIat),
		Exp:    numberOf(v, keyExp),
		Scope:  wordsOf(textOf(v, keyScope)),
		Level:  numberOf(v, keyLevel),
		Act:    actorsOf(v),
		Nonce:  textOf(v, keyNonce),
	}
}

// textOf: a member's text; empty, if there is none.
func textOf(v api.Json, key string) string {
	m, _ := json.Member(v, key)
	return m.Text
}

// numberOf: a member's number; 0, if there is none.
func numberOf(v api.Json, key string) int {
	m, _ := json.Member(v, key)
	n, _ := json.Int(m)
	return n
}

// wordsOf a scope's text.
func wordsOf(s string) []string {
	if s == "" {
		return nil
	}
	return strings.Split(s, blank)
}

// actorsOf: who acts, the outermost first.
func actorsOf(v api.Json) []string {
	var l []string
	for a, ok := json.Member(v, keyAct); ok; a, ok = json.Member(a, keyAct) {
		l = append(l, textOf(a, keySub))
	}
	return l
}
