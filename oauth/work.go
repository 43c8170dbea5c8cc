package oauth

import (
	"strings"

	"seneschal/api"
	"seneschal/forest"
	"seneschal/token"
)

// work is a request under way, which gives up by a panic of the first error. What it changes it tries on a forest of its own, and draws from a tape of its own, so that an error leaves those that were handed in as they were.
type work struct {
	r     *Realm         // the one that was handed in, but for its forest
	given *forest.Forest // that one's
	ask   api.Ask
	now   int
	tape  Tape
	tried []change
}

// change of a forest.
type change func(f *forest.Forest) api.Errno

// begin: nothing is done yet.
func begin(r *Realm, now int, t *Tape) *work {
	trial := *r
	trial.F = r.F.Clone()
	return &work{r: &trial, given: r.F, now: now, tape: *t}
}

// Grant plants an access token's node, and tells its token.
func Grant(r *Realm, n api.Node, now int, t *Tape) (text string, e api.Errno) {
	defer func() {
		if fault := recover(); fault != nil {
			text, e = "", fault.(api.Errno)
		}
	}()
	w := begin(r, now, t)
	n.Kind = api.Access
	_, text = w.access(n)
	w.end(t)
	return text, api.OK
}

// Do does a request of this layer.
func Do(r *Realm, a api.Ask, now int, t *Tape) (reply api.Reply) {
	defer func() {
		if fault := recover(); fault != nil {
			e := fault.(api.Errno)
			reply = api.Reply{Status: Status(e), Code: e}
		}
	}()
	pass(Check(r.C))
	must(isTime(now), api.ErrArg)
	do, ok := works()[a.Kind]
	must(ok, api.ErrAuthorityAsk)
	w := begin(r, now, t)
	w.ask = a
	reply = do(w)
	reply.Status = Status(api.OK)
	w.end(t)
	return reply
}

// works: what is done with each kind of request.
func works() map[int]func(w *work) api.Reply {
	return map[int]func(w *work) api.Reply{
		api.AskAuthorize: (*work).authorize,
		api.AskByCode:    (*work).byCode,
		api.AskByClient:  (*work).byClient,
		api.AskByRefresh: (*work).byRefresh,
		api.AskRevoke:    (*work).revoke,
		api.AskInspect:   (*work).inspect,
		api.AskInfo:      (*work).info,
	}
}

// must gives up, if something isn't as it has to be; pass, if there is an error.
func must(ok bool, e api.Errno) {
	if !ok {
		panic(e)
	}
}

func pass(e api.Errno) { must(e == api.OK, e) }

// try does a change to the forest of the work's own.
func (w *work) try(do change) {
	pass(do(w.r.F))
	w.tried = append(w.tried, do)
}

// end does all that went well to what was handed in.
func (w *work) end(t *Tape) {
	for _, do := range w.tried {
		do(w.given)
	}
	*t = w.tape
}

// plant lays a node that is born now, with a secret that is drawn.
func (w *work) plant(n api.Node) api.Node {
	secret, e := w.tape.Secret(w.r.F)
	pass(e)
	n.Secret, n.Born = secret, w.now
	w.try(func(f *forest.Forest) api.Errno {
		_, e := f.Plant(n, w.now)
		return e
	})
	return n
}

// access lays the node of an access token, and tells the token.
func (w *work) access(n api.Node) (api.Node, string) {
	n = w.plant(n)
	text, e := token.Access(w.r.R, w.claims(n))
	pass(e)
	return n, text
}

// claims of a node's access token.
func (w *work) claims(n api.Node) api.Claims {
	return api.Claims{
		Iss: strings.Clone(w.r.C.Issuer), Sub: n.Subject, Aud: n.Audience, Client: n.Client, Jti: n.Secret,
		Iat: n.Born, Exp: n.Exp, Level: n.Level,
		Scope: n.Scope, Act: n.Actors,
	}
}

// id: the id token of an access token's node.
func (w *work) id(n api.Node, nonce string) string {
	c := w.claims(n)
	c.Aud, c.Nonce = n.Client, nonce
	c.Scope, c.Act = nil, nil
	text, e := token.Id(w.r.R, c)
	pass(e)
	return text
}

// till a time from now, but no later than the clock goes.
func (w *work) till(ttl int) int { return min(w.now+ttl, api.MaxTick) }
