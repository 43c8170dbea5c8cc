package exchange_test

import (
	"testing"

	"seneschal/api"
)

// scene: an exchange on a desk, and what is drawn.
type scene struct {
	*desk
	a     api.Ask
	now   int
	draws []string
}

// fault: what makes a request wrong, and what is answered then.
type fault struct {
	what string
	want api.Errno
	make func(s *scene)
}

// faults in the order in which the chapter names them.
func faults() []fault {
	return []fault{
		{"config", api.ErrAuthorityConfig, func(s *scene) { s.C.TicketTtl = 0 }},
		{"time", api.ErrArg, func(s *scene) { s.now = api.MaxTick + 1 }},
		{"kind", api.ErrAuthorityAsk, func(s *scene) { s.a.Kind = api.AskByClient }},
		{"secret", api.ErrOauthClient, func(s *scene) { s.a.Secret = "else" }},
		{"swap", api.ErrOauthAllowed, func(s *scene) { s.clientWith("app", func(c *api.Client) { c.Swap = false }) }},
		{"token", api.ErrOauthToken, func(s *scene) { s.a.Token = s.texts["old"] }},
		{"actor", api.ErrOauthToken, func(s *scene) { s.a.Actor = s.texts["cid"] }},
		{"may", api.ErrExchangeAct, func(s *scene) { s.P.Deny("u:bob", "u:ann") }},
		{"chain", api.ErrExchangeLong, func(s *scene) { s.a.Token = s.texts["ann4"] }},
		{"scope", api.ErrOauthScope, func(s *scene) { s.a.Scope = "read  mail" }},
		{"more", api.ErrOauthScope, func(s *scene) { s.a.Scope = "read admin" }},
		{"none", api.ErrOauthScope, func(s *scene) { s.a.Scope = "write" }},
		{"audience", api.ErrOauthRequest, func(s *scene) { s.a.Audience = "a b" }},
		{"draws", api.ErrDraw, func(s *scene) { s.draws = []string{"short", drawn(1)} }},
		{"full", api.ErrForestFull, func(s *scene) { s.fill(0) }},
	}
}

// Each fault has its error, and of two the first one's is answered, and nothing has changed.
func TestP181Order(t *testing.T) {
	fresh := func(t *testing.T) *scene {
		d := open(t)
		return &scene{d, d.swap("ann", "bob", "read mail"), 11, drawnAll(1, 1)}
	}
	s := fresh(t)
	s.done(s.a, s.now, s.draws...)
	l := faults()
	for i, first := range l {
		for _, second := range l[i:] {
			t.Run(first.what+" and "+second.what, func(t *testing.T) {
				s := fresh(t)
				second.make(s)
				first.make(s)
				s.refused(first.what, s.a, s.now, first.want, s.draws...)
			})
		}
	}
}
