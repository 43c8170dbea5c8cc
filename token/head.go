package token

import (
	"strings"
	"unicode/utf8"

	"seneschal/api"
	"seneschal/json"
)

// What a head says of its kind, and a public key of its use.
const (
	keyAlg  = "alg"
	keyKid  = "kid"
	keyTyp  = "typ"
	algMac  = "HS256"
	algSign = "ES256"
	typMac  = "at+jwt"
	typSign = "JWT"
)

// What stands in a text's form.
const (
	quote   = `"`
	escape  = `\`
	control = `\u`
)

// maxPiece: some bytes of a text that json takes at once.
const maxPiece = 4096

// kind of tokens: what their heads say.
type kind struct{ alg, typ string }

// accessKind: of access tokens.
func accessKind() kind { return kind{algMac, typMac} }

// idKind: of id tokens.
func idKind() kind { return kind{algSign, typSign} }

// head with a key's name.
func (k kind) head(kid string) string {
	return form(lay([]member{text(keyAlg, k.alg), text(keyKid, kid), text(keyTyp, k.typ)}))
}

// kid: the key's name that a head tells, and whether s is one.
func (k kind) kid(s string) (string, bool) {
	// The name may be any text, also one that makes the head longer than json takes: so what stands about it is held against a head with an empty one.
	ahead, behind, _ := strings.Cut(k.head(""), quote+quote)
	s, begins := strings.CutPrefix(s, ahead+quote)
	s, ends := strings.CutSuffix(s, quote+behind)
	if !begins || !ends {
		return "", false
	}
	return unquoted(s)
}

// unquoted: the text whose form, between two quotes, is s, and whether it is one's.
func unquoted(s string) (string, bool) {
	var b strings.Builder
	for s != "" {
		n := piece(s)
		quoted := quote + s[:n] + quote
		v, e := json.Parse(quoted)
		if e != api.OK || form(v) != quoted {
			return "", false
		}
		b.WriteString(v.Text)
		s = s[n:]
	}
	return b.String(), true
}

// piece: how many bytes at the beginning of s are whole characters, as many as may be read at once.
func piece(s string) int {
	n := 0
	for n < len(s) && n < maxPiece {
		n += character(s[n:])
	}
	return n
}

// character: how many bytes the first character's form has in s, which is not empty.
func character(s string) int {
	switch {
	case strings.HasPrefix(s, control):
		return min(len(s), len(control)+4)
	case strings.HasPrefix(s, escape):
		return min(len(s), len(escape)+1)
	}
	_, n := utf8.DecodeRuneInString(s)
	return n
}
