package exchange_test

import (
	"maps"
	"regexp"
	"slices"
	"strings"

	"seneschal/api"
	"seneschal/oauth"
)

var (
	textForm   = regexp.MustCompile(`\A[!-~]{1,128}\z`)
	scopesForm = regexp.MustCompile(`\A[a-z0-9._:-]{1,32}( [a-z0-9._:-]{1,32})*\z`)
)

// asked: the scopes of a text, each once; false, if it is no text of scopes.
func asked(text string) (map[string]int, bool) {
	l := map[string]int{}
	if text == "" {
		return l, true
	}
	words := strings.Split(text, " ")
	for _, s := range words {
		l[s]++
	}
	return l, scopesForm.MatchString(text) && len(words) <= 16 && len(l) == len(words)
}

// expected: what Do answers, after the chapter's words; a realm and a tape become what they are behind it.
func expected(r *oauth.Realm, a api.Ask, now int, tape *oauth.Tape) api.Reply {
	n, e := expectedNode(r, a, now)
	access := ""
	if e == 0 {
		access, e = oauth.Grant(r, n, now, tape)
	}
	if e != 0 {
		status := map[api.Errno]int{170: 401, 176: 401, 180: 403, 3: 503, 130: 507}[e]
		if status == 0 {
			status = 400
		}
		return api.Reply{Status: status, Code: e}
	}
	return api.Reply{Status: 200, Access: access, Scope: n.Scope, Expires: n.Exp - now}
}

func expectedNode(r *oauth.Realm, a api.Ask, now int) (n api.Node, e api.Errno) {
	if oauth.Check(r.C) != 0 {
		return n, 211
	}
	if now < 0 || now > 1<<40 {
		return n, 1
	}
	if a.Kind != 14 {
		return n, 210
	}
	client, e := oauth.Auth(r, a.Client, a.Secret)
	if e != 0 {
		return n, 170
	}
	if !client.Swap {
		return n, 174
	}
	subject, ok := oauth.Bearer(r, a.Token, now)
	if !ok {
		return n, 176
	}
	n = api.Node{Parent: subject.Id, Subject: subject.Subject, Level: subject.Level, Client: a.Client, Audience: a.Audience}
	n.Exp = min(now+r.C.AccessTtl, 1<<40, subject.Exp)
	who := "c:" + a.Client
	if a.Actor != "" {
		actor, ok := oauth.Bearer(r, a.Actor, now)
		if !ok {
			return api.Node{}, 176
		}
		who = actor.Subject
		n.Actors = append([]string{who}, actor.Actors...)
		n.Exp = min(n.Exp, actor.Exp)
	}
	if !slices.Contains(r.P.Mays(), api.May{Actor: who, Subject: subject.Subject}) {
		return api.Node{}, 180
	}
	if n.Actors = append(n.Actors, subject.Actors...); len(n.Actors) > 4 {
		return api.Node{}, 181
	}
	scopes, ok := asked(a.Scope)
	for s := range scopes {
		ok = ok && slices.Contains(subject.Scope, s)
	}
	for _, s := range subject.Scope {
		if a.Scope == "" {
			scopes[s] = 1
		}
	}
	maps.DeleteFunc(scopes, func(s string, _ int) bool { return !slices.Contains(client.Scopes, s) })
	if !ok || len(scopes) == 0 {
		return api.Node{}, 172
	}
	if a.Audience != "" && !textForm.MatchString(a.Audience) {
		return api.Node{}, 173
	}
	n.Scope = slices.Sorted(maps.Keys(scopes))
	return n, 0
}
