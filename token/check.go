package token

import (
	"unicode/utf8"

	"seneschal/api"
)

// maxLevel: of claims.
const maxLevel = 9

// Check: may claims be?
func Check(c api.Claims) api.Errno {
	if !textsMayBe(c) || !numbersMayBe(c) || !scopeMayBe(c.Scope) || !actorsMayBe(c.Act) {
		return api.ErrTokenForm
	}
	return api.OK
}

// textsMayBe: the texts of claims that stand alone.
func textsMayBe(c api.Claims) bool {
	for _, s := range [...]string{c.Iss, c.Sub, c.Aud, c.Client, c.Jti, c.Nonce} {
		if !textMayBe(s) {
			return false
		}
	}
	return true
}

// textMayBe: one of them.
func textMayBe(s string) bool { return len(s) <= api.MaxText && utf8.ValidString(s) }

// numbersMayBe: the numbers of claims.
func numbersMayBe(c api.Claims) bool {
	return within(c.Iat, api.MaxTick) && within(c.Exp, api.MaxTick) && within(c.Level, maxLevel)
}

// within: is n 0 to most?
func within(n, most int) bool { return n >= 0 && n <= most }

// scopeMayBe: words that rise.
func scopeMayBe(l []string) bool {
	if len(l) > api.MaxScopes {
		return false
	}
	for i, w := range l {
		if !wordMayBe(w) || i > 0 && l[i-1] >= w {
			return false
		}
	}
	return true
}

// wordMayBe: a word of a scope.
func wordMayBe(w string) bool {
	if len(w) == 0 || len(w) > api.MaxScope {
		return false
	}
	for i := range len(w) {
		if b := w[i]; b <= ' ' || b > '~' || b == '"' || b == '\\' {
			return false
		}
	}
	return true
}

// actorsMayBe: who acts.
func actorsMayBe(l []string) bool {
	if len(l) > api.MaxActors {
		return false
	}
	for _, s := range l {
		if s == "" || !textMayBe(s) {
			return false
		}
	}
	return true
}
