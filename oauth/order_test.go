package oauth_test

import (
	"fmt"
	"testing"

	"seneschal/api"
	"seneschal/oauth"
)

// scene: a request on a realm, and what is drawn.
type scene struct {
	testing.TB
	r     *oauth.Realm
	a     api.Ask
	now   int
	draws []string
}

// fault: what makes a request wrong, and what is answered then.
type fault struct {
	what string
	want api.Errno
	make func(s *scene)
}

// inOrder: each fault has its error, and of two the first one's is answered.
func inOrder(t *testing.T, fresh func() *scene, faults ...fault) {
	t.Helper()
	s := fresh()
	done(t, s.r, s.a, s.now, s.draws...)
	for i, first := range faults {
		for _, second := range faults[i:] {
			s := fresh()
			second.make(s)
			first.make(s)
			t.Run(first.what+" and "+second.what, func(t *testing.T) {
				same(t, "Do", asks(t, s.r, s.a, s.now, s.draws...), api.Reply{Status: statusOf(first.want), Code: first.want})
			})
		}
	}
}

// ofAll: the faults that each request may have.
func ofAll() []fault {
	return []fault{
		{"config", api.ErrAuthorityConfig, func(s *scene) { s.r.C.TicketTtl = 0 }},
		{"no time", api.ErrArg, func(s *scene) { s.now = api.MaxTick + 1 }},
		{"kind", api.ErrAuthorityAsk, func(s *scene) { s.a.Kind = api.AskExchange }},
	}
}

// flagged: a client's flags become other ones.
func flagged(change func(c *api.Client)) func(s *scene) {
	return func(s *scene) { clientWith(s, s.r, s.a.Client, change) }
}

// notSecret, notDrawn, isFull: faults that several have.
func notSecret() fault {
	return fault{"secret", api.ErrOauthClient, func(s *scene) { s.a.Secret = "else" }}
}

func notDrawn(count int) fault {
	return fault{"draws", api.ErrDraw, func(s *scene) { s.draws = append(drawnAll(50, count), "short", drawn(60)) }}
}

func isFull(room int) fault {
	return fault{"full", api.ErrForestFull, func(s *scene) {
		full(s, s.r)
		for i := range room {
			// The last ones go, as if they had never come.
			n, _ := s.r.F.Find(fmt.Sprint("full ", api.MaxNodes-1-i))
			fits(s, s.r.F.Kill(n.Id))
		}
	}}
}

func TestP175OrderOfAuthorize(t *testing.T) {
	fresh := func() *scene { return &scene{t, realm(t), authorize("s-ann", "read"), 11, drawnAll(1, 1)} }
	inOrder(t, fresh, append(ofAll(),
		fault{"session", api.ErrOauthToken, func(s *scene) { s.a.Session = "s-cid" }},
		fault{"client", api.ErrOauthClient, func(s *scene) { s.a.Client = "none" }},
		fault{"code", api.ErrOauthAllowed, flagged(func(c *api.Client) { c.Code = false })},
		fault{"redirect", api.ErrOauthRedirect, func(s *scene) { s.a.Redirect = "https://else" }},
		fault{"challenge", api.ErrOauthRequest, func(s *scene) { s.a.Challenge = verifier }},
		fault{"nonce", api.ErrOauthRequest, func(s *scene) { s.a.Nonce = "a b" }},
		fault{"scope", api.ErrOauthScope, func(s *scene) { s.a.Scope = "read  mail" }},
		fault{"scopes", api.ErrOauthScope, func(s *scene) { s.a.Scope = "extra write" }},
		fault{"level", api.ErrOauthLevel, func(s *scene) { s.a.Scope = "read admin" }},
		notDrawn(0),
		fault{"data", api.ErrForestNode, func(s *scene) {
			s.a.Redirect, s.a.Nonce = long(128), long(128)
			clientWith(s, s.r, "web", func(c *api.Client) { c.Redirects = []string{long(128)} })
		}},
		isFull(0),
	)...)
}

// coded: a realm with ann's code for web.
func coded(t testing.TB, scope string) (*oauth.Realm, api.Reply) {
	t.Helper()
	r := realm(t)
	return r, done(t, r, authorize("s-ann", scope), 11, drawn(1))
}

// ofGrant: a node is spent, or its subject is not active.
func ofGrant(secret func(a api.Ask) string) []fault {
	return []fault{
		{"spent", api.ErrOauthGrant, func(s *scene) {
			n, _ := s.r.F.Find(secret(s.a))
			s.r.F.Spend(n.Id, 11)
		}},
		{"inactive", api.ErrOauthGrant, func(s *scene) { fits(s, s.r.P.SetActive("ann", false)) }},
	}
}

func TestP175OrderOfByCode(t *testing.T) {
	fresh := func() *scene {
		r, reply := coded(t, "openid read")
		return &scene{t, r, byCode(reply.Grant), 11, drawnAll(2, 2)}
	}
	l := append(ofAll(), notSecret(),
		fault{"code", api.ErrOauthAllowed, flagged(func(c *api.Client) { c.Code = false })},
		fault{"redirect", api.ErrOauthGrant, func(s *scene) { s.a.Redirect = webOther }},
		fault{"verifier", api.ErrOauthGrant, func(s *scene) { s.a.Verifier += "." }},
	)
	l = append(l, ofGrant(func(a api.Ask) string { return a.Code })...)
	l = append(l, notDrawn(0), isFull(0), notDrawn(1), isFull(1), fault{"nonce", api.ErrTokenForm, func(s *scene) {
		n, _ := s.r.F.Find(s.a.Code)
		fits(s, s.r.F.Note(n.Id, theRow(webBack, challengeOf(verifier), long(129))))
	}})
	inOrder(t, fresh, l...)
}

func TestP175OrderOfByClient(t *testing.T) {
	fresh := func() *scene { return &scene{t, realm(t), byClient("read"), 11, drawnAll(1, 1)} }
	inOrder(t, fresh, append(ofAll(), notSecret(),
		fault{"own", api.ErrOauthAllowed, flagged(func(c *api.Client) { c.Own = false })},
		fault{"scope", api.ErrOauthScope, func(s *scene) { s.a.Scope = "read read" }},
		fault{"scopes", api.ErrOauthScope, func(s *scene) { s.a.Scope = "admin" }},
		fault{"audience", api.ErrOauthRequest, func(s *scene) { s.a.Audience = "a b" }},
		notDrawn(0), isFull(0),
	)...)
}

func TestP175OrderOfByRefresh(t *testing.T) {
	fresh := func() *scene {
		r, reply := coded(t, "openid read")
		reply = done(t, r, byCode(reply.Grant), 11, drawnAll(2, 2)...)
		return &scene{t, r, byRefresh(reply.Refresh, "read"), 11, drawnAll(4, 2)}
	}
	l := append(ofAll(), notSecret(),
		fault{"refresh", api.ErrOauthAllowed, flagged(func(c *api.Client) { c.Refresh = false })},
	)
	l = append(l, ofGrant(func(a api.Ask) string { return a.Token })...)
	inOrder(t, fresh, append(l,
		fault{"scope", api.ErrOauthScope, func(s *scene) { s.a.Scope = " read" }},
		fault{"scopes", api.ErrOauthScope, func(s *scene) { s.a.Scope = "mail read" }},
		fault{"may", api.ErrOauthScope, func(s *scene) { s.r.P.Leave("staff", "ann") }},
		notDrawn(0), isFull(0), notDrawn(1), isFull(1),
	)...)
}

func TestP175OrderOfOthers(t *testing.T) {
	texts := func(make func(texts map[string]string) api.Ask) func() *scene {
		return func() *scene {
			r := realm(t)
			return &scene{t, r, make(tokens(t, r)), 11, nil}
		}
	}
	inOrder(t, texts(func(l map[string]string) api.Ask { return revoke(l["access"]) }), append(ofAll(), notSecret())...)
	inOrder(t, texts(func(l map[string]string) api.Ask { return inspect(l["access"]) }), append(ofAll(), notSecret())...)
	inOrder(t, texts(func(l map[string]string) api.Ask { return info(l["access"]) }), append(ofAll(),
		fault{"token", api.ErrOauthToken, func(s *scene) { s.a.Token += "x" }},
		fault{"inactive", api.ErrOauthToken, func(s *scene) { fits(s, s.r.P.SetActive("ann", false)) }},
	)...)
}
