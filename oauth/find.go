package oauth

import (
	"slices"
	"strings"

	"seneschal/api"
	"seneschal/forest"
	"seneschal/people"
	"seneschal/token"
)

// How the principals that are users begin, and those that are clients.
const (
	userPrefix   = "u:"
	clientPrefix = "c:"
)

// openid is the scope that each user may, and of which an id token comes.
const openid = "openid"

// Usable tells whether a node is live, and all are active that it names.
func Usable(r *Realm, n api.Node, now int) bool {
	n, ok := r.F.Get(n.Id)
	return ok && r.F.Live(n.Id, now) && r.P.Active(n.Subject) && (n.Client == "" || isClient(r.P, n.Client))
}

// Who finds a session, Bearer an access token, both if they are usable; Named an access or a refresh token.
func Who(r *Realm, session string, now int) (api.Node, bool) {
	n, ok := find(r.F, api.Session, session)
	if !ok || !Usable(r, n, now) {
		return api.Node{}, false
	}
	return n, true
}

func Bearer(r *Realm, text string, now int) (api.Node, bool) {
	n, ok := Named(r, text)
	if !ok || n.Kind != api.Access || !Usable(r, n, now) {
		return api.Node{}, false
	}
	return n, true
}

func Named(r *Realm, text string) (api.Node, bool) {
	c, e := token.Read(r.R, text)
	if e != api.OK {
		return find(r.F, api.Refresh, text)
	}
	return find(r.F, api.Access, c.Jti)
}

// find: the node of a kind with a secret.
func find(f *forest.Forest, kind int, secret string) (api.Node, bool) {
	n, ok := f.Find(secret)
	if !ok || n.Kind != kind {
		return api.Node{}, false
	}
	return n, true
}

func isClient(p *people.People, id string) bool {
	_, ok := p.Client(id)
	return ok
}

// allowed: the scopes that a principal may now.
func allowed(p *people.People, principal string) []string {
	name, isUser := strings.CutPrefix(principal, userPrefix)
	if isUser {
		return append(p.Holds(name), openid)
	}
	c, _ := p.Client(strings.TrimPrefix(principal, clientPrefix))
	return c.Scopes
}

// common: the scopes of a list that stand in each of others, too.
func common(l []string, others ...[]string) []string {
	return slices.DeleteFunc(slices.Clone(l), func(s string) bool {
		return slices.ContainsFunc(others, func(other []string) bool { return !slices.Contains(other, s) })
	})
}
