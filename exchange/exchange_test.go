package exchange_test

import (
	"fmt"
	"slices"
	"strings"
	"testing"

	"seneschal/api"
	"seneschal/exchange"
	"seneschal/oauth"
	"seneschal/token"
)

func TestExamples(t *testing.T) {
	d := open(t)
	same(t, "without Swap", d.asks(by(d.swap("ann", "", ""), "web"), 11, drawn(1)), api.Reply{Status: 400, Code: api.ErrOauthAllowed})
	a := d.swap("", "", "")
	a.Token = "none"
	same(t, "no token", d.asks(a, 11, drawn(1)), api.Reply{Status: 401, Code: api.ErrOauthToken})
	fits(t, d.P.Deny("c:app", "u:ann"))
	same(t, "no may", d.asks(d.swap("ann", "", ""), 11, drawn(1)), api.Reply{Status: 403, Code: api.ErrExchangeAct})
	fits(t, d.P.Allow("c:app", "u:ann"))
	got := d.done(d.swap("ann", "", ""), 11, drawn(1))
	c, e := token.Read(d.R, got.Access)
	same(t, "a token of", []any{c.Sub, c.Act, e}, []any{"u:ann", []string(nil), api.OK})
}

// The document's eighth example.
func TestExampleOfTheWhole(t *testing.T) {
	d := open(t)
	got := d.done(d.swap("ann", "bob", "read"), 11, drawn(1))
	c, e := token.Read(d.R, got.Access)
	same(t, "a token of", []any{c.Sub, c.Act, e}, []any{"u:ann", []string{"u:bob"}, api.OK})
	fits(t, d.P.Deny("u:bob", "u:ann"))
	d.refused("without the may", d.swap("ann", "bob", "read"), 11, api.ErrExchangeAct, drawn(2))
}

func TestP181First(t *testing.T) {
	d := open(t)
	for kind := -3; kind < api.Asks+3; kind++ {
		a := d.swap("ann", "bob", "read")
		a.Kind = kind
		if kind != api.AskExchange {
			d.refused(fmt.Sprint("kind ", kind), a, 11, api.ErrAuthorityAsk, drawn(1))
		}
		for _, now := range []int{-1, -1 << 63, api.MaxTick + 1, 1<<63 - 1} {
			d.refused(fmt.Sprint("at ", now), a, now, api.ErrArg, drawn(1))
		}
		good := d.C
		for _, change := range []func(c *api.Config){func(c *api.Config) { c.Issuer = "" }, func(c *api.Config) { c.TicketTtl = 0 }, func(c *api.Config) { c.AccessTtl = 1<<30 + 1 }, func(c *api.Config) { *c = api.Config{} }} {
			change(&d.C)
			d.refused("config", a, 11, api.ErrAuthorityConfig, drawn(1))
			d.refused("config", a, -1, api.ErrAuthorityConfig)
			d.C = good
		}
	}
	d.refused("nothing", api.Ask{}, 0, api.ErrAuthorityAsk)
	d.refused("nothing else", api.Ask{Kind: api.AskExchange}, 0, api.ErrOauthClient)
	d.done(d.swap("ann", "bob", "read"), 11, drawn(1))
}

func TestP181Impersonation(t *testing.T) {
	d := open(t)
	a := d.swap("ann", "", "read mail")
	a.Audience = "https://api"
	got := d.done(a, 11, drawn(1), drawn(2))
	same(t, "reply", got, api.Reply{Status: 200, Access: got.Access, Scope: []string{"mail", "read"}, Expires: 50})
	same(t, "node", d.last(), api.Node{Id: d.last().Id, Kind: api.Access, Parent: d.ids["ann"], Subject: "u:ann", Client: "app", Audience: "https://api", Scope: []string{"mail", "read"}, Born: 11, Exp: 61, Level: 2, Secret: base(drawn(1))})
	c, e := token.Read(d.R, got.Access)
	same(t, "claims", []any{c, e}, []any{api.Claims{Iss: "https://id.example", Sub: "u:ann", Aud: "https://api", Client: "app", Jti: base(drawn(1)), Iat: 11, Exp: 61, Level: 2, Scope: []string{"mail", "read"}}, api.OK})
	n, ok := oauth.Bearer(d.Realm, got.Access, 60)
	same(t, "bearer", []any{n.Id, ok}, []any{d.last().Id, true})
	// No audience of the subject's token is taken over.
	got = d.done(d.swap("ann", "", ""), 12, drawn(1), drawn(2), drawn(3))
	same(t, "node", d.last(), api.Node{Id: d.last().Id, Kind: api.Access, Parent: d.ids["ann"], Subject: "u:ann", Client: "app", Scope: []string{"mail", "openid", "read"}, Born: 12, Exp: 62, Level: 2, Secret: base(drawn(2))})
	same(t, "reply", got, api.Reply{Status: 200, Access: got.Access, Scope: []string{"mail", "openid", "read"}, Expires: 50})
}

func TestP181Delegation(t *testing.T) {
	d := open(t)
	got := d.done(d.swap("ann2", "bob", "read"), 11, drawn(1))
	same(t, "reply", got, api.Reply{Status: 200, Access: got.Access, Scope: []string{"read"}, Expires: 50})
	same(t, "node", d.last(), api.Node{Id: d.last().Id, Kind: api.Access, Parent: d.ids["ann2"], Subject: "u:ann", Client: "app", Scope: []string{"read"}, Actors: []string{"u:bob", "u:bob", "c:bot"}, Born: 11, Exp: 61, Level: 2, Secret: base(drawn(1))})
	c, e := token.Read(d.R, got.Access)
	same(t, "claims", []any{c, e}, []any{api.Claims{Iss: "https://id.example", Sub: "u:ann", Client: "app", Jti: base(drawn(1)), Iat: 11, Exp: 61, Level: 2, Scope: []string{"read"}, Act: []string{"u:bob", "u:bob", "c:bot"}}, api.OK})
	// By a newer key; the token that is handed in is of the older one.
	fits(t, d.R.Turn("newer"))
	got = d.done(d.swap("ann", "bot", "read"), 11, drawn(2))
	same(t, "of the newest key", strings.Split(got.Access, ".")[0], base(`{"alg":"HS256","kid":"`+d.R.Kids()[1]+`","typ":"at+jwt"}`))
	same(t, "actors", d.last().Actors, []string{"c:bot"})
}

func TestP181Client(t *testing.T) {
	d := open(t)
	for i, x := range []struct {
		id, secret string
		want       api.Errno
	}{
		{"app", "app's", 0}, {"spa", "", 0}, {"idle", "", 0}, {"bot", "bot's", 0},
		{"app", "", 170}, {"app", "bot's", 170}, {"app", hexSum("app's"), 170}, {"spa", "x", 170}, {"idle", "x", 170}, {"none", "", 170}, {"", "", 170}, {"c:app", "app's", 170}, {"ann", "", 170},
		{"web", "web's", 174}, {"web", "", 170},
	} {
		a := d.swap("ann", "", "")
		a.Client, a.Secret = x.id, x.secret
		if x.want == api.OK {
			d.done(a, 11, drawn(10+i))
			same(t, x.id, d.last().Client, x.id)
		} else {
			d.refused(x.id+" "+x.secret, a, 11, x.want, drawn(1))
		}
	}
	d.clientWith("app", func(c *api.Client) { c.Swap = false })
	d.refused("no swap", d.swap("ann", "", ""), 11, api.ErrOauthAllowed, drawn(1))
	d.clientWith("app", func(c *api.Client) { *c = api.Client{Id: "app", Scopes: []string{"read"}, Swap: true} })
	d.done(by(d.swap("ann", "", ""), "spa"), 11, drawn(1))
	fits(t, d.P.DropClient("app"))
	d.refused("no client", d.swap("ann", "", ""), 11, api.ErrOauthClient, drawn(1))
}

func TestP181Nodes(t *testing.T) {
	for what, text := range open(t).stale() {
		d := open(t)
		a := d.swap("ann", "bob", "")
		a.Token = text
		d.refused("the subject's is "+what, a, 11, api.ErrOauthToken, drawn(1))
		a.Actor = text
		d.refused("both are "+what, a, 11, api.ErrOauthToken, drawn(1))
		a.Token = d.texts["ann"]
		d.refused("the actor's is "+what, a, 11, api.ErrOauthToken, drawn(1))
		a.Token, a.Actor = text, ""
		d.refused("without an actor "+what, a, 11, api.ErrOauthToken, drawn(1))
	}
	d := open(t)
	a := d.swap("", "", "")
	d.refused("no token", a, 11, api.ErrOauthToken, drawn(1))
	a.Actor = d.texts["bob"]
	d.refused("no token, but an actor", a, 11, api.ErrOauthToken, drawn(1))
	// As they stand at that time.
	d.done(d.swap("old", "", ""), 10, drawn(1))
	d.refused("a tick later", d.swap("old", "", ""), 11, api.ErrOauthToken, drawn(2))
	fits(t, d.P.Allow("u:ann", "u:bob"))
	d.done(d.swap("bob", "old", ""), 10, drawn(2))
	d.refused("an actor a tick later", d.swap("bob", "old", ""), 11, api.ErrOauthToken, drawn(3))
	fits(t, d.P.SetActive("cid", true))
	d.done(d.swap("cid", "", ""), 11, drawn(3))
	d.done(d.swap("ann", "cid", ""), 11, drawn(4))
	d.clientWith("gone", func(*api.Client) {})
	d.done(d.swap("gone", "", ""), 11, drawn(5))
	fits(t, d.F.Kill(d.ids["s-ann"]))
	d.refused("behind the session's end", d.swap("ann", "", ""), 11, api.ErrOauthToken, drawn(6))
}

func TestP181WhoActs(t *testing.T) {
	for _, x := range []struct {
		client, token, actor string
		want                 api.Errno
	}{
		{"app", "ann", "", 0}, {"app", "bob", "", 0}, {"app", "bot", "", 0}, {"app", "app", "", 0},
		{"bot", "bot", "", api.ErrExchangeAct}, {"bot", "app", "", api.ErrExchangeAct}, {"bot", "ann", "", 0},
		{"app", "ann", "bob", 0}, {"app", "ann", "bot", 0}, {"app", "ann", "app", 0}, {"app", "bob", "app", 0}, {"app", "app", "app", 0},
		{"app", "bob", "ann", api.ErrExchangeAct}, {"app", "ann", "ann", api.ErrExchangeAct}, {"app", "bob", "bob", api.ErrExchangeAct}, {"app", "bot", "bob", api.ErrExchangeAct}, {"app", "bot", "bot", api.ErrExchangeAct},
		// With an actor it is that one who acts, whatever the client may; and its Subject, whoever acts for it.
		{"spa", "bob", "app", 0}, {"spa", "ann", "bob", 0}, {"spa", "bob", "", api.ErrExchangeAct}, {"spa", "ann", "bob4", api.ErrExchangeLong}, {"bot", "ann", "bob", 0}, {"app", "bob", "ann1", api.ErrExchangeAct}, {"app", "ann2", "ann", api.ErrExchangeAct},
	} {
		d := open(t)
		what, a := fmt.Sprint(x), by(d.swap(x.token, x.actor, ""), x.client)
		if x.want == api.OK {
			d.done(a, 11, drawn(1))
			if d.last().Subject != d.node(x.token).Subject {
				t.Errorf("%s: %+v", what, d.last())
			}
			continue
		}
		d.refused(what, a, 11, x.want, drawn(1))
	}
	// A may of its own.
	d := open(t)
	fits(t, d.P.Allow("u:ann", "u:ann"))
	d.done(d.swap("ann", "ann1", ""), 11, drawn(1))
	same(t, "actors", d.last().Actors, []string{"u:ann", "u:bob"})
	// A may for it is none by it, and what a group or a role has is none.
	fits(t, d.P.Deny("c:app", "u:ann"), d.P.Allow("u:ann", "c:app"))
	d.refused("the other way", d.swap("ann", "", ""), 11, api.ErrExchangeAct, drawn(2))
}

func TestP181Chain(t *testing.T) {
	chains := []string{"u:bob", "c:bot", "u:gone", "c:app"}
	for i := range 5 {
		for k := -1; k < 5; k++ {
			d := open(t)
			name, actor := fmt.Sprint("ann", i), fmt.Sprint("bob", k)
			name, actor = strings.TrimSuffix(name, "0"), strings.TrimSuffix(actor, "0")
			var want []string
			if k < 0 {
				actor = ""
			} else {
				want = slices.Concat([]string{"u:bob"}, chains[4-k:])
			}
			want = append(want, chains[:i]...)
			if len(want) > 4 {
				d.refused(name+" "+actor, d.swap(name, actor, "read"), 11, api.ErrExchangeLong, drawn(1))
				continue
			}
			got := d.done(d.swap(name, actor, "read"), 11, drawn(1))
			c, _ := token.Read(d.R, got.Access)
			same(t, name+" "+actor, []any{d.last().Actors, c.Act}, []any{want, want})
		}
	}
}

// What came of an exchange is exchanged once more, till the chain is full.
func TestP181ChainGrows(t *testing.T) {
	d := open(t)
	text := d.texts["ann"]
	for i := range 6 {
		a := d.swap("", anyFor(i, "bob", "bot"), "")
		a.Token = text
		if i == 4 {
			d.refused("a fifth", a, 11+i, api.ErrExchangeLong, drawn(1+i))
			// Without an actor it stays as long.
			a.Actor = ""
		}
		if i == 5 {
			d.refused("a fifth", a, 11+i, api.ErrExchangeLong, drawn(1+i))
			continue
		}
		text = d.done(a, 11+i, drawn(1+i)).Access
	}
	same(t, "chain", d.last().Actors, []string{"c:bot", "u:bob", "c:bot", "u:bob"})
	same(t, "ends no later", d.last().Exp, 61)
	// The actor's own chain stands behind it.
	a := d.swap("ann", "", "")
	d.gives("bob's", api.Node{Subject: "u:bob", Exp: 100, Actors: []string{"c:app", "c:bot"}, Scope: []string{"none"}})
	a.Actor = d.texts["bob's"]
	d.done(a, 11, drawn(9))
	same(t, "chain", d.last().Actors, []string{"u:bob", "c:app", "c:bot"})
}

// anyFor a number: one of these, by turns.
func anyFor(i int, l ...string) string { return l[i%len(l)] }

func TestP181Scopes(t *testing.T) {
	for _, x := range []struct {
		client, token, text, want string
		e                         api.Errno
	}{
		{"app", "ann", "", "mail openid read", 0}, {"app", "ann", "read", "read", 0}, {"app", "ann", "read mail", "mail read", 0}, {"app", "ann", "write read", "read", 0}, {"app", "ann", "openid", "openid", 0},
		{"app", "ann", "write", "", 172}, {"app", "ann", "admin", "", 172}, {"app", "ann", "read admin", "", 172}, {"app", "ann", "none read", "", 172}, {"app", "bob", "mail", "", 172}, {"app", "bob", "mail read", "", 172},
		{"app", "ann", "read read", "", 172}, {"app", "ann", "read  mail", "", 172}, {"app", "ann", " read", "", 172}, {"app", "ann", "read ", "", 172}, {"app", "ann", " ", "", 172}, {"app", "ann", "READ", "", 172}, {"app", "ann", "read,mail", "", 172}, {"app", "ann", "read\x00", "", 172}, {"app", "ann", long(1 << 16), "", 172},
		{"bot", "ann", "", "read write", 0}, {"bot", "ann", "mail", "", 172}, {"bot", "ann", "mail write", "write", 0}, {"bot", "ann", "admin", "", 172},
		{"spa", "ann", "", "openid read", 0}, {"bare", "ann", "", "", 172}, {"bare", "ann", "read", "", 172}, {"idle", "ann", "mail", "", 172}, {"idle", "ann", "", "read", 0},
		{"app", "bare", "", "", 172}, {"app", "bare", "read", "", 172}, {"app", "bot", "", "read", 0}, {"app", "bot", "admin", "", 172}, {"app", "app", "", "mail read", 0},
	} {
		d := open(t)
		a := by(d.swap(x.token, "", x.text), x.client)
		if x.e != api.OK {
			d.refused(fmt.Sprint(x), a, 11, x.e, drawn(1))
			continue
		}
		got := d.done(a, 11, drawn(1))
		same(t, fmt.Sprint(x), []string{strings.Join(got.Scope, " "), strings.Join(d.last().Scope, " ")}, []string{x.want, x.want})
	}
}

// Neither what the subject holds, nor what the actor's token may, is looked at.
func TestP181ScopesOfTheSubjectsTokenAlone(t *testing.T) {
	d := open(t)
	d.gives("idle", api.Node{Subject: "u:bob", Exp: 300})
	same(t, "scopes", d.done(d.swap("ann", "idle", "mail"), 11, drawn(1)).Scope, []string{"mail"})
	same(t, "scopes", d.done(d.swap("ann", "bot", ""), 11, drawn(2)).Scope, []string{"mail", "openid", "read"})
	d.refused("the actor's", d.swap("ann", "bot", "admin"), 11, api.ErrOauthScope, drawn(3))
	fits(t, d.P.PutRole(api.Role{Name: "boss", Scopes: []string{"admin"}}), d.P.AddGroup("g"), d.P.Give("g", "boss"), d.P.Join("g", "ann"))
	d.refused("what she holds", d.swap("ann", "", "admin"), 11, api.ErrOauthScope, drawn(3))
	d.clientWith("app", func(c *api.Client) { c.Scopes = []string{"mail", "write"} })
	same(t, "scopes", d.done(d.swap("ann", "", ""), 11, drawn(3)).Scope, []string{"mail", "write"})
}

func TestP181ManyScopes(t *testing.T) {
	d := open(t)
	l := scopesOfAll(17)
	d.gives("many", api.Node{Subject: "u:ann", Exp: 100, Scope: l[:16]})
	d.clientWith("app", func(c *api.Client) { c.Scopes = l[1:] })
	reversed := slices.Clone(l[:16])
	slices.Reverse(reversed)
	for i, text := range []string{"", strings.Join(l[:16], " "), strings.Join(reversed, " "), strings.Join(l[1:16], " ")} {
		same(t, "scopes", d.done(d.swap("many", "", text), 11, drawn(i)).Scope, l[1:16])
	}
	d.refused("too many", d.swap("many", "", strings.Join(l, " ")), 11, api.ErrOauthScope, drawn(9))
	d.refused("too many, the same", d.swap("many", "", strings.Join(append(reversed, l[0]), " ")), 11, api.ErrOauthScope, drawn(9))
	d.refused("one that the client may not", d.swap("many", "", l[0]), 11, api.ErrOauthScope, drawn(9))
	d.refused("one that it may, but the token not", d.swap("many", "", l[16]), 11, api.ErrOauthScope, drawn(9))
}

func TestP181Audiences(t *testing.T) {
	for text, fit := range map[string]bool{"": true, "a": true, "!~": true, "https://api": true, long(128): true, long(129): false, " ": false, "a b": false, "a\n": false, "\x7f": false, "é": false, "\xff": false, "\x00": false, long(1 << 16): false} {
		d := open(t)
		a := d.swap("ann", "bob", "read")
		a.Audience = text
		if !fit {
			d.refused("audience "+text, a, 11, api.ErrOauthRequest, drawn(1))
			continue
		}
		c, e := token.Read(d.R, d.done(a, 11, drawn(1)).Access)
		same(t, "audience", []any{c.Aud, d.last().Audience, e}, []any{text, text, api.OK})
	}
}

func TestP181Ends(t *testing.T) {
	for _, x := range []struct {
		name, actor string
		ttl, now    int
		exp         int
	}{
		{"ann", "", 50, 11, 61}, {"ann", "", 289, 11, 300}, {"ann", "", 290, 11, 300}, {"ann", "", 1, 11, 12}, {"ann", "", 50, 249, 299}, {"ann", "", 50, 250, 300}, {"ann", "", 50, 299, 300}, {"ann", "", 1 << 30, 11, 300},
		{"short", "", 50, 11, 21}, {"short", "", 50, 20, 21}, {"short", "", 10, 11, 21}, {"short", "", 9, 11, 20},
		{"ann", "bob", 50, 11, 61}, {"ann", "bob", 50, 51, 100}, {"ann", "bob", 89, 11, 100}, {"ann", "bob", 88, 11, 99}, {"ann", "bob", 200, 99, 100}, {"short", "bob", 50, 11, 21}, {"bob", "app", 100, 99, 100}, {"short", "bob", 1, 11, 12},
		{"long", "", 50, 11, 61}, {"long", "", 1 << 30, 11, 1<<30 + 11}, {"long", "", 50, api.MaxTick - 1, api.MaxTick}, {"long", "", 50, api.MaxTick - 50, api.MaxTick}, {"long", "", 50, api.MaxTick - 51, api.MaxTick - 1}, {"long", "far", 1 << 30, api.MaxTick - 2, api.MaxTick},
		{"long", "bob", 1 << 30, 11, 100}, {"long", "", 50, 0, 50}, {"ann", "bob", 50, 0, 50},
	} {
		d := open(t)
		d.gives("long", api.Node{Subject: "u:ann", Exp: api.MaxTick, Scope: []string{"read"}})
		d.gives("far", api.Node{Subject: "u:bob", Exp: api.MaxTick})
		d.C.AccessTtl = x.ttl
		got := d.done(d.swap(x.name, x.actor, "read"), x.now, drawn(1))
		c, _ := token.Read(d.R, got.Access)
		same(t, fmt.Sprint(x), []int{d.last().Born, d.last().Exp, c.Iat, c.Exp, got.Expires}, []int{x.now, x.exp, x.now, x.exp, x.exp - x.now})
	}
	d := open(t)
	d.gives("long", api.Node{Subject: "u:ann", Exp: api.MaxTick, Scope: []string{"read"}})
	d.refused("at the end of time", d.swap("long", "", ""), api.MaxTick, api.ErrOauthToken, drawn(1))
}

func TestP181GrantsErrors(t *testing.T) {
	for i, x := range []struct {
		draws []string
		make  func(d *desk)
		want  api.Errno
	}{
		{nil, nil, api.ErrDraw},
		{[]string{""}, nil, api.ErrDraw},
		{[]string{"short", drawn(1)}, nil, api.ErrDraw},
		{[]string{long(17), drawn(1)}, nil, api.ErrDraw},
		{[]string{drawn(1), "short"}, nil, api.OK},
		{[]string{drawn(1), drawn(2)}, func(d *desk) {
			d.plants("there", api.Node{Kind: api.Session, Subject: "u:bob", Exp: 500, Secret: base(drawn(1))})
		}, api.OK},
		{[]string{drawn(1)}, func(d *desk) {
			d.plants("there", api.Node{Kind: api.Session, Subject: "u:bob", Exp: 500, Secret: base(drawn(1))})
		}, api.ErrDraw},
		{drawnAll(1, 1), func(d *desk) { d.fill(0) }, api.ErrForestFull},
		{drawnAll(1, 1), func(d *desk) { d.fill(1) }, api.OK},
		{nil, func(d *desk) { d.fill(0) }, api.ErrDraw},
		// What is over makes room, but not where the request is refused.
		{drawnAll(1, 1), func(d *desk) {
			for i := len(d.F.Nodes()); i < api.MaxNodes; i++ {
				d.plants("full", api.Node{Kind: api.Session, Subject: "u:bob", Exp: 500, Secret: fmt.Sprint("full ", i)})
			}
		}, api.OK},
	} {
		d := open(t)
		if x.make != nil {
			x.make(d)
		}
		a := d.swap("ann", "bob", "read")
		if x.want == api.OK {
			d.done(a, 11, x.draws...)
			continue
		}
		d.refused(fmt.Sprint("errors ", i), a, 11, x.want, x.draws...)
	}
}

// What is drawn comes from one tape, that of the request.
func TestP181TheTapeGoesOn(t *testing.T) {
	d := open(t)
	tape := oauth.NewTape(append(drawnAll(1, 3), drawnAll(2, 2)...))
	for i := range 3 {
		same(t, "status", exchange.Do(d.Realm, d.swap("ann", "", ""), 11, tape).Status, 200)
		same(t, "secret", d.last().Secret, base(drawn(1+i)))
	}
	before := rest(tape)
	same(t, "drawn already", exchange.Do(d.Realm, d.swap("ann", "", ""), 11, tape), api.Reply{Status: 503, Code: api.ErrDraw})
	same(t, "tape behind an error", rest(tape), before)
}

func TestP181UsesNothingElse(t *testing.T) {
	one, other := open(t), open(t)
	a := one.swap("ann", "bob", "read")
	want := one.done(a, 11, drawn(1))
	for _, s := range []*string{&a.Of, &a.User, &a.Pass, &a.Session, &a.Code, &a.Redirect, &a.Challenge, &a.Verifier, &a.Nonce, &a.Name, &a.Data, &a.Body, &a.Sig, &a.Tag, &a.Filter, &a.Patch} {
		*s = "a b"
	}
	a.From, a.Count, a.Fields = -1, -1, []api.Field{{Name: "a b"}}
	same(t, "reply", other.done(a, 11, drawn(1)), want)
	same(t, "state", stateOf(other.Realm), stateOf(one.Realm))
}
