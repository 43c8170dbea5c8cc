package oauth

import (
	"slices"

	"seneschal/api"
	"seneschal/codec"
	"seneschal/forest"
	"seneschal/hash"
	"seneschal/people"
)

// admin is the scope that needs a session of more than a password.
const (
	admin      = "admin"
	adminLevel = 2
)

// sizeChallenge: the characters of a sum, as base64url.
const sizeChallenge = 43

// authorize: a code, for a client, of a session.
func (w *work) authorize() api.Reply {
	a := w.ask
	session, ok := Who(w.r, a.Session, w.now)
	must(ok, api.ErrOauthToken)
	c, ok := w.r.P.Client(a.Client)
	must(ok, api.ErrOauthClient)
	must(c.Code, api.ErrOauthAllowed)
	must(slices.Contains(c.Redirects, a.Redirect), api.ErrOauthRedirect)
	must(isChallenge(a.Challenge) && isTextOrNone(a.Nonce), api.ErrOauthRequest)
	scope := w.some(common(w.asked(), c.Scopes, allowed(w.r.P, session.Subject)))
	must(!slices.Contains(scope, admin) || session.Level >= adminLevel, api.ErrOauthLevel)
	n := w.on(session, api.Code, w.r.C.CodeTtl)
	n.Client, n.Scope, n.Data = c.Id, scope, codeData{a.Redirect, a.Challenge, a.Nonce}.row()
	return api.Reply{Grant: w.plant(n).Secret, Scope: scope}
}

// byCode: tokens for a code.
func (w *work) byCode() api.Reply {
	c := w.client()
	must(c.Code, api.ErrOauthAllowed)
	code := w.grantOf(c, api.Code, w.ask.Code)
	d, ok := dataOf(code)
	must(ok && d.redirect == w.ask.Redirect, api.ErrOauthGrant)
	must(d.challenge == codec.Base64(hash.Sum(w.ask.Verifier)), api.ErrOauthGrant)
	w.takeOnce(code)
	n, text := w.access(w.on(code, api.Access, w.r.C.AccessTtl))
	reply := w.told(n, text)
	if c.Refresh {
		reply.Refresh = w.plant(w.on(code, api.Refresh, w.r.C.RefreshTtl)).Secret
	}
	if slices.Contains(code.Scope, openid) {
		reply.Id = w.id(n, d.nonce)
	}
	w.spend(code)
	return reply
}

// byClient: a token of a client's own.
func (w *work) byClient() api.Reply {
	c := w.client()
	must(c.Own, api.ErrOauthAllowed)
	scope := w.some(common(w.asked(), c.Scopes))
	must(isTextOrNone(w.ask.Audience), api.ErrOauthRequest)
	return w.told(w.access(api.Node{
		Kind: api.Access, Subject: clientPrefix + c.Id, Client: c.Id, Audience: w.ask.Audience,
		Scope: scope, Exp: w.till(w.r.C.AccessTtl),
	}))
}

// byRefresh: a token for a refresh token, which is turned.
func (w *work) byRefresh() api.Reply {
	c := w.client()
	must(c.Refresh, api.ErrOauthAllowed)
	old := w.grantOf(c, api.Refresh, w.ask.Token)
	w.takeOnce(old)
	scope := w.asked()
	must(len(common(scope, old.Scope)) == len(scope), api.ErrOauthScope)
	if len(scope) == 0 {
		scope = old.Scope
	}
	n := w.on(old, api.Access, w.r.C.AccessTtl)
	n.Scope = w.some(common(scope, allowed(w.r.P, old.Subject)))
	reply := w.told(w.access(n))
	reply.Refresh = w.plant(w.on(old, api.Refresh, w.r.C.RefreshTtl)).Secret
	w.spend(old)
	return reply
}

// revoke: a token is over, and all that hangs on it.
func (w *work) revoke() api.Reply {
	c := w.client()
	if n, ok := Named(w.r, w.ask.Token); ok && n.Client == c.Id {
		w.try(func(f *forest.Forest) api.Errno { return f.Kill(n.Id) })
	}
	return api.Reply{}
}

// inspect: what a token says, while it is usable.
func (w *work) inspect() api.Reply {
	w.client()
	n, ok := Named(w.r, w.ask.Token)
	if !ok || !Usable(w.r, n, w.now) {
		return api.Reply{}
	}
	return api.Reply{Active: true, Claims: w.claims(n)}
}

// info: of whom a token is.
func (w *work) info() api.Reply {
	n, ok := Bearer(w.r, w.ask.Token, w.now)
	must(ok && slices.Contains(n.Scope, openid), api.ErrOauthToken)
	return api.Reply{Text: n.Subject, Scope: n.Scope}
}

// client that asks, by its secret.
func (w *work) client() api.Client {
	c, e := Auth(w.r, w.ask.Client, w.ask.Secret)
	pass(e)
	return c
}

// asked: the scopes that are asked for.
func (w *work) asked() []string {
	l, ok := Scopes(w.ask.Scope)
	must(ok, api.ErrOauthScope)
	return l
}

// some gives up, if there are no scopes.
func (w *work) some(scope []string) []string {
	must(len(scope) > 0, api.ErrOauthScope)
	return scope
}

// grantOf a client: its node of a kind with a secret.
func (w *work) grantOf(c api.Client, kind int, secret string) api.Node {
	n, ok := find(w.r.F, kind, secret)
	must(ok && n.Client == c.Id, api.ErrOauthGrant)
	return n
}

// takeOnce gives up, if a node is not usable.
func (w *work) takeOnce(n api.Node) {
	if n.Spent {
		// Whoever comes second may be a thief, or have met one: what the first one got is over, though the request is refused.
		w.given.Spend(n.Id, w.now)
	}
	must(Usable(w.r, n, w.now), api.ErrOauthGrant)
}

// spend a node, once what comes of it hangs on it.
func (w *work) spend(n api.Node) {
	w.try(func(f *forest.Forest) api.Errno { return f.Spend(n.Id, w.now) })
}

// on: a node of a kind that hangs on another one, and has what that has.
func (w *work) on(parent api.Node, kind, ttl int) api.Node {
	return api.Node{
		Kind: kind, Parent: parent.Id, Subject: parent.Subject, Client: parent.Client,
		Scope: parent.Scope, Level: parent.Level, Exp: w.till(ttl),
	}
}

// told: what is said of an access token.
func (w *work) told(n api.Node, text string) api.Reply {
	return api.Reply{Access: text, Scope: n.Scope, Expires: w.r.C.AccessTtl}
}

// codeData: what is kept with a code.
type codeData struct{ redirect, challenge, nonce string }

func (d codeData) row() string { return people.Form([]string{d.redirect, d.challenge, d.nonce}) }

// dataOf a code; not every code needs to be one of this layer.
func dataOf(n api.Node) (codeData, bool) {
	l, ok := people.Texts(n.Data)
	if !ok || len(l) != 3 {
		return codeData{}, false
	}
	return codeData{l[0], l[1], l[2]}, true
}

func isChallenge(s string) bool {
	_, e := codec.FromBase64(s)
	return e == api.OK && len(s) == sizeChallenge
}

func isTextOrNone(s string) bool { return s == "" || people.Text(s) }
