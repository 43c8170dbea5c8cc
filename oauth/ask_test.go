package oauth_test

import (
	"fmt"
	"slices"
	"strings"
	"testing"

	"seneschal/api"
	"seneschal/oauth"
	"seneschal/token"
)

// lastNode of a realm, and the one ahead of it.
func lastNodes(r *oauth.Realm) (last, ahead api.Node) {
	l := r.F.Nodes()
	return l[len(l)-1], l[len(l)-2]
}

func TestP174Grant(t *testing.T) {
	r := realm(t)
	n := api.Node{Parent: 2, Subject: "u:ann", Client: "web", Audience: "https://api", Scope: []string{"mail", "read"}, Exp: 77, Actors: []string{"c:app", "u:bob"}, Level: 2, Data: "d",
		Id: 5, Kind: api.Code, Born: 3, Secret: "s-ann", Dead: true, Spent: true}
	text, e := grants(t, r, n, 11, drawn(1))
	fits(t, e)
	got, _ := lastNodes(r)
	n.Id, n.Kind, n.Born, n.Secret, n.Dead, n.Spent = got.Id, api.Access, 11, base(drawn(1)), false, false
	same(t, "node", got, n)
	c, e := token.Read(r.R, text)
	same(t, "claims", []any{c, e}, []any{api.Claims{Iss: "https://id.example", Sub: "u:ann", Aud: "https://api", Client: "web", Jti: base(drawn(1)), Iat: 11, Exp: 77, Scope: []string{"mail", "read"}, Act: []string{"c:app", "u:bob"}, Level: 2}, api.OK})
	same(t, "of the ring's newest key", strings.Split(text, ".")[0], base(`{"alg":"HS256","kid":"`+r.R.Kids()[0]+`","typ":"at+jwt"}`))
	fits(t, r.R.Turn("newer"))
	text, e = grants(t, r, api.Node{Subject: "c:app", Exp: 20}, 12, drawn(1), drawn(2))
	fits(t, e)
	same(t, "of the ring's newest key", strings.Split(text, ".")[0], base(`{"alg":"HS256","kid":"`+r.R.Kids()[1]+`","typ":"at+jwt"}`))
	c, _ = token.Read(r.R, text)
	same(t, "claims", c, api.Claims{Iss: "https://id.example", Sub: "c:app", Jti: base(drawn(2)), Iat: 12, Exp: 20})
}

func TestP174GrantRefuses(t *testing.T) {
	ok := api.Node{Parent: 2, Subject: "u:ann", Exp: 77}
	with := func(change func(n *api.Node)) api.Node {
		n := ok
		change(&n)
		return n
	}
	badConfig := func(r *oauth.Realm) { r.C.Issuer = long(129) }
	for i, x := range []struct {
		n     api.Node
		now   int
		draws []string
		make  func(r *oauth.Realm)
		want  api.Errno
	}{
		{ok, 11, nil, nil, api.ErrDraw},
		{ok, 11, []string{"short", drawn(1)}, nil, api.ErrDraw},
		{api.Node{}, 11, nil, badConfig, api.ErrDraw},
		{api.Node{}, 11, drawnAll(1, 2), badConfig, api.ErrForestNode},
		{with(func(n *api.Node) { n.Parent = -1 }), 11, drawnAll(1, 2), nil, api.ErrForestNode},
		{with(func(n *api.Node) { n.Scope = []string{"b", "a"} }), 11, drawnAll(1, 2), nil, api.ErrForestNode},
		{ok, -1, drawnAll(1, 2), nil, api.ErrForestNode},
		{ok, api.MaxTick + 1, drawnAll(1, 2), nil, api.ErrForestNode},
		{with(func(n *api.Node) { n.Parent = 6 }), 11, drawnAll(1, 2), badConfig, api.ErrForestDead},
		{with(func(n *api.Node) { n.Parent = 99 }), 11, drawnAll(1, 2), nil, api.ErrForestDead},
		{ok, 11, drawnAll(1, 2), badConfig, api.ErrTokenForm},
		{ok, 11, drawnAll(1, 2), func(r *oauth.Realm) { r.C.Issuer = "\xff" }, api.ErrTokenForm},
		// What the prune within Plant took away is there again.
		{ok, 11, drawnAll(1, 2), func(r *oauth.Realm) {
			for i := range 256 {
				r.F.Plant(session("u:bob", fmt.Sprint("full ", i), 1), 2)
			}
		}, api.OK},
		{ok, 11, drawnAll(1, 2), func(r *oauth.Realm) {
			full(t, r)
			badConfig(r)
		}, api.ErrForestFull},
	} {
		r := realm(t)
		if x.make != nil {
			x.make(r)
		}
		before := fmt.Sprintf("%q", r.F.Rows())
		_, e := grants(t, r, x.n, x.now, x.draws...)
		same(t, fmt.Sprint("error ", i), e, x.want)
		if after := fmt.Sprintf("%q", r.F.Rows()); e != api.OK && after != before {
			t.Errorf("%d: the forest is another one", i)
		}
	}
}

// A full forest in which some are over: a Plant takes these away, but a Grant that is refused behind it brings them back.
func TestP174GrantPrunesOnlyIfOK(t *testing.T) {
	r := realm(t)
	for i := 0; i == 0 || len(r.F.Nodes()) < 256; i++ {
		plants(t, r, session("u:bob", fmt.Sprint("full ", i), 1))
	}
	c := r.Clone()
	c.C.Issuer = "\xff"
	for _, x := range []struct {
		r    *oauth.Realm
		want api.Errno
	}{{c, api.ErrTokenForm}, {r, api.OK}} {
		_, e := grants(t, x.r, api.Node{Subject: "c:app", Exp: 20}, 11, drawn(1))
		_, there := x.r.F.Find("s-old")
		same(t, "Grant", []any{e, there}, []any{x.want, x.want != api.OK})
	}
}

func TestP175First(t *testing.T) {
	kinds := map[int]bool{api.AskAuthorize: true, api.AskByCode: true, api.AskByClient: true, api.AskByRefresh: true, api.AskRevoke: true, api.AskInspect: true, api.AskInfo: true}
	for kind := -3; kind < api.Asks+3; kind++ {
		r := realm(t)
		a := authorize("s-ann", "read")
		a.Kind = kind
		if reply := asks(t, r, a, 5, drawn(1)); (reply.Code == api.ErrAuthorityAsk) == kinds[kind] {
			t.Errorf("%d: %+v", kind, reply)
		}
		for _, now := range []int{-1, -1 << 63, api.MaxTick + 1, 1<<63 - 1} {
			refused(t, r, a, now, api.ErrArg, drawn(1))
		}
		r.C = api.Config{}
		refused(t, r, a, -1, api.ErrAuthorityConfig, drawn(1))
	}
	refused(t, realm(t), api.Ask{}, 5, api.ErrAuthorityAsk)
}

func TestP175Authorize(t *testing.T) {
	r := realm(t)
	got := done(t, r, authorize("s-ann2", "read openid admin write"), 7, drawn(1), drawn(2))
	same(t, "reply", got, api.Reply{Status: 200, Grant: base(drawn(1)), Scope: []string{"admin", "openid", "read"}})
	n, _ := lastNodes(r)
	same(t, "node", n, api.Node{Id: 13, Kind: api.Code, Parent: 2, Subject: "u:ann", Client: "web", Scope: []string{"admin", "openid", "read"}, Born: 7, Exp: 27, Level: 2, Secret: base(drawn(1)),
		Data: "14:" + webBack + "43:" + challengeOf(verifier) + "5:nonce"})
	// One more, the secret of the first passed over, by another client, without a nonce.
	a := by(authorize("s-bob", "read"), "app")
	a.Redirect, a.Nonce = "app:/cb", ""
	got = done(t, r, a, 8, drawn(1), drawn(2))
	same(t, "reply", got, api.Reply{Status: 200, Grant: base(drawn(2)), Scope: []string{"read"}})
	n, _ = lastNodes(r)
	same(t, "node", n, api.Node{Id: 14, Kind: api.Code, Parent: 3, Subject: "u:bob", Client: "app", Scope: []string{"read"}, Born: 8, Exp: 28, Level: 3, Secret: base(drawn(2)), Data: "7:app:/cb43:" + challengeOf(verifier) + "0:"})
}

func TestP175AuthorizeUsesNothingElse(t *testing.T) {
	r := realm(t)
	a := authorize("s-ann", "read")
	for _, s := range []*string{&a.Of, &a.User, &a.Pass, &a.Code, &a.Token, &a.Actor, &a.Secret, &a.Audience, &a.Verifier, &a.Name, &a.Data, &a.Body, &a.Sig, &a.Tag, &a.Filter, &a.Patch} {
		*s = "a b"
	}
	a.From, a.Count = -1, -1
	done(t, r, a, 7, drawn(1))
	for _, a := range []api.Ask{byClient("read"), byCode(base(drawn(1))), info("")} {
		a.Session, a.Nonce, a.Challenge, a.User = "a b", "a b", "a b", "a b"
		asks(t, r, a, 7, drawnAll(2, 2)...)
	}
}

func TestP175AuthorizeScopes(t *testing.T) {
	for _, x := range []struct {
		session, client, text, want string
		e                           api.Errno
	}{
		{"s-ann", "web", "openid", "openid", 0}, {"s-ann", "web", "read openid mail", "mail openid read", 0}, {"s-ann", "web", "write openid extra read", "openid read", 0},
		{"s-ann", "web", "", "", api.ErrOauthScope}, {"s-ann", "web", "write", "", api.ErrOauthScope}, {"s-ann", "web", "extra", "", api.ErrOauthScope}, {"s-ann", "web", "write extra none", "", api.ErrOauthScope},
		{"s-ann", "web", "Read", "", api.ErrOauthScope}, {"s-ann", "web", "read read", "", api.ErrOauthScope}, {"s-ann", "web", "read ", "", api.ErrOauthScope}, {"s-ann", "web", "read,mail", "", api.ErrOauthScope},
		{"s-ann", "web", strings.Join(append(words(15), "read"), " "), "read", 0}, {"s-ann", "web", strings.Join(append(words(16), "read"), " "), "", api.ErrOauthScope},
		{"s-ann", "spa", "mail read openid", "openid read", 0}, {"s-ann", "spa", "mail", "", api.ErrOauthScope},
		{"s-ann", "web", "admin", "", api.ErrOauthLevel}, {"s-ann", "web", "admin read", "", api.ErrOauthLevel}, {"s-ann2", "web", "admin", "admin", 0},
		// Who may not admin needs no step up, since the code does not say so.
		{"s-bob", "web", "admin", "", api.ErrOauthScope}, {"s-bob", "web", "admin read", "read", 0}, {"s-ann", "spa", "admin read", "read", 0},
		// A client, as a subject, may its own scopes alone.
		{"s-app", "web", "admin read mail openid", "mail openid read", 0}, {"s-app", "web", "extra", "", api.ErrOauthScope}, {"s-bot", "web", "openid read", "read", 0}, {"s-bot", "web", "openid", "", api.ErrOauthScope},
		{"s-bot", "web", "admin", "", api.ErrOauthLevel}, {"s-web", "spa", "read", "read", 0},
	} {
		r := realm(t)
		plants(t, r, session("c:bot", "s-bot", 1))
		a := authorize(x.session, x.text)
		a.Client = x.client
		if x.e != api.OK {
			refused(t, r, a, 5, x.e, drawn(1))
			continue
		}
		same(t, x.text, strings.Join(done(t, r, a, 5, drawn(1)).Scope, " "), x.want)
	}
}

func TestP175AuthorizeSessions(t *testing.T) {
	for text, want := range map[string]api.Errno{"s-ann": 0, "s-old": 0, "s-web": 0, "s-cid": 176, "s-dead": 176, "s-below": 176, "s-gone": 176, "s-none": 176, "held": 176, "": 176, "u:ann": 176, "1": 176} {
		r := realm(t)
		same(t, text, asks(t, r, authorize(text, "openid"), 9, drawn(1)).Code, want)
		for _, now := range []int{10, 499, 500} {
			asks(t, r, authorize(text, "openid"), now, drawn(1))
		}
	}
	r := realm(t)
	code := done(t, r, authorize("s-ann", "openid"), 9, drawn(1)).Grant
	refused(t, r, authorize(code, "openid"), 9, api.ErrOauthToken, drawn(2))
	done(t, r, authorize("s-ann", "openid"), 499, drawn(2))
	refused(t, r, authorize("s-ann", "openid"), 500, api.ErrOauthToken, drawn(3))
}

func TestP175AuthorizeRedirects(t *testing.T) {
	r := realm(t)
	for i, redirect := range []string{webBack, webOther, "", "https://web/c", webBack + "/", "app:/cb", "HTTPS://web/cb", webBack + " " + webOther} {
		a := authorize("s-ann", "read")
		a.Redirect = redirect
		if i < 2 {
			done(t, r, a, 5, drawn(i))
		} else {
			refused(t, r, a, 5, api.ErrOauthRedirect, drawn(i))
		}
	}
	clientWith(t, r, "web", func(c *api.Client) { c.Redirects = nil })
	refused(t, r, authorize("s-ann", "read"), 5, api.ErrOauthRedirect, drawn(9))
}

func TestP175AuthorizeChallenges(t *testing.T) {
	challenges := func(s string, fit bool) {
		t.Helper()
		r := realm(t)
		a := authorize("s-ann", "read")
		a.Challenge = s
		if fit {
			done(t, r, a, 5, drawn(1))
		} else {
			refused(t, r, a, 5, api.ErrOauthRequest, drawn(1))
		}
	}
	good := strings.Repeat("A", 42)
	for c := range 256 {
		s := string([]byte{byte(c)})
		isOne := strings.Contains("ABCDEFGHIJKLMNOPQRSTUVWXYZabcdefghijklmnopqrstuvwxyz0123456789-_", s)
		challenges(s+good, isOne)
		challenges(good[:20]+s+good[20:], isOne)
		// The last one has but four bits of the bytes.
		challenges(good+s, strings.Contains("AEIMQUYcgkosw048", s))
	}
	for _, s := range []string{"", "A", good, good + "AA", good + "A=", good + "A ", "=" + good + "A", strings.Repeat("A", 32), strings.Repeat("A", 44), strings.Repeat("A", 86), hexSum(verifier), sumOf(verifier), long(1 << 16)} {
		challenges(s, false)
	}
}

func TestP175AuthorizeNonces(t *testing.T) {
	for s, fit := range map[string]bool{"": true, "n": true, "!~": true, long(128): true, long(129): false, " ": false, "a b": false, "\x7f": false, "é": false, "\x00": false, long(1 << 16): false} {
		r := realm(t)
		a := authorize("s-ann", "read")
		a.Nonce = s
		if fit {
			done(t, r, a, 5, drawn(1))
		} else {
			refused(t, r, a, 5, api.ErrOauthRequest, drawn(1))
		}
	}
}

// A redirect and a nonce that are both long are more than a node takes.
func TestP175AuthorizeLongData(t *testing.T) {
	for n, want := range map[int]api.Errno{1: api.OK, 60: api.OK, 74: api.OK, 75: api.OK, 76: api.ErrForestNode, 77: api.ErrForestNode, 128: api.ErrForestNode} {
		r := realm(t)
		clientWith(t, r, "web", func(c *api.Client) { c.Redirects = []string{long(128)} })
		a := authorize("s-ann", "read")
		a.Redirect, a.Nonce = long(128), long(n)
		if len(theRow(a.Redirect, a.Challenge, a.Nonce)) <= 256 != (want == api.OK) {
			t.Fatalf("a row of %d bytes", len(theRow(a.Redirect, a.Challenge, a.Nonce)))
		}
		same(t, fmt.Sprint(n), asks(t, r, a, 5, drawn(1)).Code, want)
	}
}

func TestP175ByCode(t *testing.T) {
	r, code := coded(t, "read openid mail")
	got := done(t, r, byCode(code.Grant), 12, drawnAll(2, 3)...)
	access := api.Claims{Iss: "https://id.example", Sub: "u:ann", Client: "web", Jti: base(drawn(2)), Iat: 12, Exp: 62, Scope: []string{"mail", "openid", "read"}, Level: 1}
	c, e := token.Read(r.R, got.Access)
	same(t, "access token", []any{c, e}, []any{access, api.OK})
	id, e := token.ReadId(r.R, got.Id)
	access.Aud, access.Scope, access.Nonce = "web", nil, "nonce"
	same(t, "id token", []any{id, e}, []any{access, api.OK})
	same(t, "reply", got, api.Reply{Status: 200, Access: got.Access, Refresh: base(drawn(3)), Id: got.Id, Scope: []string{"mail", "openid", "read"}, Expires: 50})
	refresh, node := lastNodes(r)
	n, _ := r.F.Find(code.Grant)
	want := api.Node{Id: n.Id + 1, Kind: api.Access, Parent: n.Id, Subject: "u:ann", Client: "web", Scope: []string{"mail", "openid", "read"}, Born: 12, Exp: 62, Level: 1, Secret: base(drawn(2))}
	same(t, "access node", node, want)
	want.Id, want.Kind, want.Exp, want.Secret = n.Id+2, api.Refresh, 212, base(drawn(3))
	same(t, "refresh node", refresh, want)
	same(t, "the code is", []bool{n.Spent, n.Dead}, []bool{true, false})
}

// What is told hangs on the client's flag, and on the scope.
func TestP175ByCodeTells(t *testing.T) {
	for _, x := range []struct {
		client, scope string
		refresh, id   bool
	}{{"web", "openid", true, true}, {"web", "read", true, false}, {"spa", "openid read", false, true}, {"spa", "read", false, false}, {"app", "openid", true, true}} {
		r := realm(t)
		a, b := by(authorize("s-ann2", x.scope), x.client), by(byCode(base(drawn(1))), x.client)
		a.Nonce = ""
		if x.client == "app" {
			a.Redirect, b.Redirect = "app:/cb", "app:/cb"
		}
		done(t, r, a, 5, drawn(1))
		got := done(t, r, b, 6, drawnAll(2, 2)...)
		same(t, fmt.Sprint(x), []bool{got.Access != "", got.Refresh != "", got.Id != ""}, []bool{true, x.refresh, x.id})
		if id, e := token.ReadId(r.R, got.Id); x.id && (e != api.OK || id.Nonce != "" || id.Level != 2 || id.Aud != x.client) {
			t.Errorf("%+v: %+v, %d", x, id, e)
		}
	}
}

func TestP175ByCodeRefuses(t *testing.T) {
	for i, change := range []func(r *oauth.Realm, a *api.Ask){
		func(_ *oauth.Realm, a *api.Ask) { a.Code = "" },
		func(_ *oauth.Realm, a *api.Ask) { a.Code += "x" },
		func(_ *oauth.Realm, a *api.Ask) { a.Code = "s-ann" },
		func(_ *oauth.Realm, a *api.Ask) { *a = by(*a, "spa") },
		func(_ *oauth.Realm, a *api.Ask) { *a = by(*a, "app") },
		func(_ *oauth.Realm, a *api.Ask) { a.Redirect = "" },
		func(_ *oauth.Realm, a *api.Ask) { a.Redirect = webOther },
		func(_ *oauth.Realm, a *api.Ask) { a.Redirect += "/" },
		func(_ *oauth.Realm, a *api.Ask) { a.Verifier = "" },
		func(_ *oauth.Realm, a *api.Ask) { a.Verifier = challengeOf(verifier) },
		func(_ *oauth.Realm, a *api.Ask) { a.Verifier += "\x00" },
		func(r *oauth.Realm, _ *api.Ask) { r.P.SetActive("ann", false) },
		func(r *oauth.Realm, _ *api.Ask) { r.P.DropUser("ann") },
		func(r *oauth.Realm, _ *api.Ask) { r.F.Kill(1) },
		func(r *oauth.Realm, a *api.Ask) { n, _ := r.F.Find(a.Code); r.F.Kill(n.Id) },
		func(r *oauth.Realm, _ *api.Ask) { r.F.KillOf("c:web") },
	} {
		r, code := coded(t, "read openid")
		a := byCode(code.Grant)
		change(r, &a)
		t.Run(fmt.Sprint(i), func(t *testing.T) { refused(t, r, a, 12, api.ErrOauthGrant, drawnAll(2, 2)...) })
	}
	// The redirect of a client that is another one by now is still the code's; its scopes stay, too.
	r, code := coded(t, "read openid")
	clientWith(t, r, "web", func(c *api.Client) { c.Redirects, c.Scopes = nil, nil })
	r.P.Leave("staff", "ann")
	same(t, "scope", done(t, r, byCode(code.Grant), 12, drawnAll(2, 2)...).Scope, []string{"openid", "read"})
}

func TestP175ByCodeInTime(t *testing.T) {
	r, code := coded(t, "read")
	for _, now := range []int{31, 32, 1 << 30, api.MaxTick} {
		refused(t, r, byCode(code.Grant), now, api.ErrOauthGrant, drawnAll(2, 2)...)
	}
	// A session that is over does not end what came of it: only its death does.
	fits(t, r.F.Spend(1, 12))
	done(t, r, byCode(code.Grant), 30, drawnAll(2, 2)...)
}

func TestP175ByCodeAgain(t *testing.T) {
	r, code := coded(t, "read openid")
	got := done(t, r, byCode(code.Grant), 12, drawnAll(2, 2)...)
	next := done(t, r, byRefresh(got.Refresh, ""), 12, drawnAll(4, 2)...)
	other := done(t, r, authorize("s-ann", "read"), 12, drawn(6))
	isActive := func(want bool) {
		t.Helper()
		for _, text := range []string{got.Access, next.Access, next.Refresh} {
			same(t, "active", done(t, r, inspect(text), 13).Active, want)
		}
	}
	// Who does not know what the code hangs on meets nothing, though it is spent.
	wrong := byCode(code.Grant)
	wrong.Verifier = "else"
	refused(t, r, wrong, 13, api.ErrOauthGrant, drawnAll(7, 2)...)
	wrong = byCode(code.Grant)
	wrong.Redirect = webOther
	refused(t, r, wrong, 13, api.ErrOauthGrant, drawnAll(7, 2)...)
	refused(t, r, by(byCode(code.Grant), "spa"), 13, api.ErrOauthGrant, drawnAll(7, 2)...)
	isActive(true)
	same(t, "again", asks(t, r, byCode(code.Grant), 13).Code, api.ErrOauthGrant)
	isActive(false)
	n, _ := r.F.Find(code.Grant)
	same(t, "the code is", []bool{n.Spent, n.Dead}, []bool{true, true})
	refused(t, r, byCode(code.Grant), 13, api.ErrOauthGrant, drawnAll(7, 2)...)
	// What hangs on the session besides lives.
	done(t, r, byCode(other.Grant), 13, drawnAll(7, 2)...)
}

// A code that is over, and spent: it is met for the second time all the same.
func TestP175ByCodeAgainLater(t *testing.T) {
	r, code := coded(t, "read")
	got := done(t, r, byCode(code.Grant), 12, drawnAll(2, 2)...)
	fits(t, r.P.SetActive("ann", false))
	same(t, "again", asks(t, r, byCode(code.Grant), 40, drawnAll(4, 2)...).Code, api.ErrOauthGrant)
	fits(t, r.P.SetActive("ann", true))
	for _, text := range []string{got.Access, got.Refresh} {
		same(t, "active", done(t, r, inspect(text), 40).Active, false)
	}
}

// Codes that others planted, with data of all kinds.
func TestP175ByCodeOfAnyData(t *testing.T) {
	for data, want := range map[string]api.Errno{
		"": 171, "x": 171, theRow(webBack): 171, theRow(webBack, challengeOf(verifier)): 171, theRow(webBack, challengeOf(verifier), "", ""): 171, theRow(webBack, challengeOf(verifier), "") + "x": 171,
		theRow(webBack, challengeOf(verifier), ""): 0, theRow(webBack, challengeOf(verifier), "é \x00"): 0, theRow(webBack, challengeOf(verifier), "\xff"): 142, theRow(webBack, challengeOf(verifier), long(129)): 142,
		theRow(webBack, challengeOf(verifier), long(128)): 0, theRow(challengeOf(verifier), webBack, ""): 171, "0" + theRow(webBack, challengeOf(verifier), ""): 171, theRow(webBack, hexSum(verifier), ""): 171,
	} {
		for _, scope := range [][]string{{"openid"}, {"any"}, nil} {
			r := realm(t)
			plants(t, r, api.Node{Kind: api.Code, Subject: "u:ann", Client: "web", Audience: "https://api", Scope: scope, Exp: 30, Actors: []string{"c:app"}, Level: 3, Secret: "the code", Data: data})
			e := want
			if len(scope) == 0 || scope[0] != "openid" {
				e = map[api.Errno]api.Errno{171: 171}[want]
			}
			if e == api.OK {
				got := done(t, r, byCode("the code"), 12, drawnAll(2, 2)...)
				same(t, "scope", got.Scope, scope)
			} else {
				refused(t, r, byCode("the code"), 12, e, drawnAll(2, 2)...)
			}
		}
	}
}

func TestP175ByClient(t *testing.T) {
	r := realm(t)
	got := done(t, r, byClient("read mail admin"), 12, drawn(1))
	c, e := token.Read(r.R, got.Access)
	same(t, "access token", []any{c, e}, []any{api.Claims{Iss: "https://id.example", Sub: "c:app", Aud: "https://api", Client: "app", Jti: base(drawn(1)), Iat: 12, Exp: 62, Scope: []string{"mail", "read"}}, api.OK})
	same(t, "reply", got, api.Reply{Status: 200, Access: got.Access, Scope: []string{"mail", "read"}, Expires: 50})
	n, _ := lastNodes(r)
	same(t, "node", n, api.Node{Id: n.Id, Kind: api.Access, Subject: "c:app", Client: "app", Audience: "https://api", Scope: []string{"mail", "read"}, Born: 12, Exp: 62, Secret: base(drawn(1))})
	// The scope admin needs no level here.
	same(t, "bot", done(t, r, by(byClient("admin"), "bot"), 12, drawn(2)).Scope, []string{"admin"})
}

func TestP175ByClientRefuses(t *testing.T) {
	r := realm(t)
	for _, scope := range []string{"", "admin", "none write", "read  mail", "mail mail", "Mail", "\x00", strings.Join(words(17), " ")} {
		refused(t, r, byClient(scope), 12, api.ErrOauthScope, drawn(1))
	}
	for _, audience := range []string{" ", "a b", "é", long(129), "\x00"} {
		a := byClient("read")
		a.Audience = audience
		refused(t, r, a, 12, api.ErrOauthRequest, drawn(1))
	}
	for i, audience := range []string{"", "!", long(128)} {
		a := byClient("read")
		a.Audience = audience
		c, _ := token.Read(r.R, done(t, r, a, 12, drawn(1+i)).Access)
		same(t, "aud", c.Aud, audience)
	}
	for _, id := range []string{"web", "spa", "idle"} {
		refused(t, r, by(byClient("read"), id), 12, api.ErrOauthAllowed, drawn(9))
	}
	for _, secret := range []string{"", "app", hexSum("app's")} {
		a := byClient("read")
		a.Secret = secret
		refused(t, r, a, 12, api.ErrOauthClient, drawn(9))
	}
}

// refreshed: a realm with ann's refresh token of web.
func refreshed(t testing.TB, scope string) (*oauth.Realm, api.Reply) {
	t.Helper()
	r, code := coded(t, scope)
	return r, done(t, r, byCode(code.Grant), 12, drawnAll(2, 2)...)
}

func TestP175ByRefresh(t *testing.T) {
	r, first := refreshed(t, "read openid mail")
	got := done(t, r, byRefresh(first.Refresh, "read mail"), 40, drawnAll(4, 3)...)
	c, e := token.Read(r.R, got.Access)
	same(t, "access token", []any{c, e}, []any{api.Claims{Iss: "https://id.example", Sub: "u:ann", Client: "web", Jti: base(drawn(4)), Iat: 40, Exp: 90, Scope: []string{"mail", "read"}, Level: 1}, api.OK})
	same(t, "reply", got, api.Reply{Status: 200, Access: got.Access, Refresh: base(drawn(5)), Scope: []string{"mail", "read"}, Expires: 50})
	refresh, node := lastNodes(r)
	old, _ := r.F.Find(first.Refresh)
	want := api.Node{Id: refresh.Id - 1, Kind: api.Access, Parent: old.Id, Subject: "u:ann", Client: "web", Scope: []string{"mail", "read"}, Born: 40, Exp: 90, Level: 1, Secret: base(drawn(4))}
	same(t, "access node", node, want)
	want.Id, want.Kind, want.Exp, want.Secret, want.Scope = refresh.Id, api.Refresh, 240, base(drawn(5)), []string{"mail", "openid", "read"}
	same(t, "refresh node", refresh, want)
	same(t, "the old one is", []bool{old.Spent, old.Dead}, []bool{true, false})
	// What was narrowed once is not so for good.
	got = done(t, r, byRefresh(got.Refresh, ""), 41, drawnAll(6, 2)...)
	same(t, "scope", got.Scope, []string{"mail", "openid", "read"})
}

func TestP175ByRefreshScopes(t *testing.T) {
	for _, x := range []struct {
		text, want string
		leaves     bool
		e          api.Errno
	}{
		{"", "mail openid read", false, 0}, {"read", "read", false, 0}, {"read mail openid", "mail openid read", false, 0},
		{"write", "", false, 172}, {"read write", "", false, 172}, {"read admin", "", false, 172}, {"read  mail", "", false, 172}, {"read read", "", false, 172}, {" ", "", false, 172}, {"Read", "", false, 172},
		{"", "openid", true, 0}, {"openid read", "openid", true, 0}, {"read", "", true, 172}, {"mail read", "", true, 172}, {"openid", "openid", true, 0}, {"openid write", "", true, 172},
	} {
		r, first := refreshed(t, "read openid mail")
		if x.leaves {
			fits(t, r.P.Leave("staff", "ann"))
		}
		if x.e != api.OK {
			refused(t, r, byRefresh(first.Refresh, x.text), 13, x.e, drawnAll(4, 2)...)
			continue
		}
		got := done(t, r, byRefresh(first.Refresh, x.text), 13, drawnAll(4, 2)...)
		same(t, x.text, strings.Join(got.Scope, " "), x.want)
		n, _ := r.F.Find(got.Refresh)
		same(t, "the refresh token's", n.Scope, []string{"mail", "openid", "read"})
	}
}

// A refresh token of a client's own, and one that may nothing.
func TestP175ByRefreshOfOthers(t *testing.T) {
	r := realm(t)
	n := api.Node{Kind: api.Refresh, Subject: "c:app", Client: "app", Audience: "https://api", Scope: []string{"admin", "mail"}, Exp: 100, Actors: []string{"u:bob"}, Level: 3, Secret: "own", Data: "d"}
	plants(t, r, n)
	got := done(t, r, by(byRefresh("own", ""), "app"), 13, drawnAll(4, 2)...)
	same(t, "scope", got.Scope, []string{"mail"})
	refresh, access := lastNodes(r)
	same(t, "scope of the refresh token", refresh.Scope, []string{"admin", "mail"})
	for _, x := range []api.Node{access, refresh} {
		same(t, "of the old one", []any{x.Subject, x.Client, x.Level, x.Audience, x.Actors, x.Data}, []any{"c:app", "app", 3, "", []string(nil), ""})
	}
	n.Secret, n.Scope = "nothing", nil
	plants(t, r, n)
	refused(t, r, by(byRefresh("nothing", ""), "app"), 13, api.ErrOauthScope, drawnAll(6, 2)...)
	n.Secret, n.Scope = "more", []string{"admin"}
	plants(t, r, n)
	refused(t, r, by(byRefresh("more", ""), "app"), 13, api.ErrOauthScope, drawnAll(6, 2)...)
}

func TestP175ByRefreshRefuses(t *testing.T) {
	for i, change := range []func(r *oauth.Realm, a *api.Ask){
		func(_ *oauth.Realm, a *api.Ask) { a.Token = "" },
		func(_ *oauth.Realm, a *api.Ask) { a.Token += "x" },
		func(_ *oauth.Realm, a *api.Ask) { a.Token = "s-ann" },
		func(_ *oauth.Realm, a *api.Ask) { *a = by(*a, "app") },
		func(r *oauth.Realm, a *api.Ask) { n, _ := r.F.Find(a.Token); a.Token = tokenOf(t, r, n) },
		func(r *oauth.Realm, _ *api.Ask) { r.P.SetActive("ann", false) },
		func(r *oauth.Realm, _ *api.Ask) { r.F.Kill(1) },
		func(r *oauth.Realm, a *api.Ask) { n, _ := r.F.Find(a.Token); r.F.Kill(n.Parent) },
	} {
		r, first := refreshed(t, "read openid")
		a := byRefresh(first.Refresh, "")
		change(r, &a)
		t.Run(fmt.Sprint(i), func(t *testing.T) { refused(t, r, a, 13, api.ErrOauthGrant, drawnAll(4, 2)...) })
	}
	r, first := refreshed(t, "read openid")
	refused(t, r, byRefresh(first.Access, ""), 13, api.ErrOauthGrant, drawnAll(4, 2)...)
	refused(t, r, byRefresh(base(drawn(1)), ""), 13, api.ErrOauthGrant, drawnAll(4, 2)...)
	refused(t, r, byRefresh(base(drawn(2)), ""), 13, api.ErrOauthGrant, drawnAll(4, 2)...)
	refused(t, r, by(byRefresh(first.Refresh, ""), "spa"), 13, api.ErrOauthAllowed, drawnAll(4, 2)...)
	for _, now := range []int{212, 213, api.MaxTick} {
		refused(t, r, byRefresh(first.Refresh, ""), now, api.ErrOauthGrant, drawnAll(4, 2)...)
	}
	done(t, r, byRefresh(first.Refresh, ""), 211, drawnAll(4, 2)...)
}

func TestP175ByRefreshAgain(t *testing.T) {
	r, first := refreshed(t, "read openid")
	second := done(t, r, byRefresh(first.Refresh, ""), 13, drawnAll(4, 2)...)
	third := done(t, r, byRefresh(second.Refresh, ""), 13, drawnAll(6, 2)...)
	isActive := func(texts ...string) (l []bool) {
		for _, text := range texts {
			l = append(l, done(t, r, inspect(text), 13).Active)
		}
		return l
	}
	all := []string{first.Access, first.Refresh, second.Access, second.Refresh, third.Access, third.Refresh}
	same(t, "active", isActive(all...), []bool{true, false, true, false, true, true})
	refused(t, r, by(byRefresh(second.Refresh, ""), "app"), 13, api.ErrOauthGrant, drawnAll(8, 2)...)
	same(t, "active", isActive(all...), []bool{true, false, true, false, true, true})
	// The scope that is asked for is not even looked at.
	same(t, "again", asks(t, r, byRefresh(second.Refresh, "  "), 13).Code, api.ErrOauthGrant)
	same(t, "active", isActive(all...), []bool{true, false, true, false, false, false})
	refused(t, r, byRefresh(third.Refresh, ""), 13, api.ErrOauthGrant, drawnAll(8, 2)...)
	same(t, "again", asks(t, r, byRefresh(first.Refresh, ""), 13).Code, api.ErrOauthGrant)
	same(t, "active", isActive(all...), []bool{true, false, false, false, false, false})
}

func TestP175Revoke(t *testing.T) {
	r := realm(t)
	texts := tokens(t, r)
	later := done(t, r, byRefresh(texts["refresh"], ""), 6, drawnAll(5, 2)...)
	isActive := func() (l []bool) {
		for _, text := range []string{texts["access"], later.Access, later.Refresh} {
			l = append(l, done(t, r, inspect(text), 13).Active)
		}
		return l
	}
	// What is none of these, or another client's, or no token, is none of its business.
	for _, text := range append(wrong(), texts["code"], texts["session"], texts["id"], texts["ticket"], texts["jti"]) {
		same(t, "nothing", done(t, r, revoke(text), 13), api.Reply{Status: 200})
	}
	for _, client := range []string{"app", "spa", "bot", "idle"} {
		same(t, client, done(t, r, by(revoke(later.Refresh), client), 13), api.Reply{Status: 200})
	}
	same(t, "active", isActive(), []bool{true, true, true})
	same(t, "access", done(t, r, revoke(later.Access), 13), api.Reply{Status: 200})
	same(t, "active", isActive(), []bool{true, false, true})
	same(t, "again", done(t, r, revoke(later.Access), 13), api.Reply{Status: 200})
	// The one that is spent: what came of it hangs on it.
	same(t, "refresh", done(t, r, revoke(texts["refresh"]), 13), api.Reply{Status: 200})
	same(t, "active", isActive(), []bool{true, false, false})
	// Also one that is over, and of a subject that is not active.
	fits(t, r.P.SetActive("ann", false))
	done(t, r, revoke(texts["access"]), 400)
	n, _ := r.F.Find(texts["jti"])
	same(t, "dead", n.Dead, true)
}

func TestP175Inspect(t *testing.T) {
	r := realm(t)
	texts := tokens(t, r)
	claims := api.Claims{Iss: "https://id.example", Sub: "u:ann", Client: "web", Jti: base(drawn(2)), Iat: 5, Exp: 55, Scope: []string{"openid", "read"}, Level: 1}
	for _, client := range []string{"web", "app", "spa", "bot", "idle"} {
		same(t, client, done(t, r, by(inspect(texts["access"]), client), 54), api.Reply{Status: 200, Active: true, Claims: claims})
	}
	same(t, "over", done(t, r, inspect(texts["access"]), 55), api.Reply{Status: 200})
	claims.Jti, claims.Exp = base(drawn(3)), 205
	same(t, "refresh", done(t, r, inspect(texts["refresh"]), 204), api.Reply{Status: 200, Active: true, Claims: claims})
	same(t, "over", done(t, r, inspect(texts["refresh"]), 205), api.Reply{Status: 200})
	for _, text := range append(wrong(), texts["code"], texts["session"], texts["id"], texts["ticket"], texts["jti"]) {
		same(t, "nothing", done(t, r, inspect(text), 6), api.Reply{Status: 200})
	}
	n := api.Node{Parent: 1, Subject: "u:bob", Audience: "https://api", Scope: []string{"a"}, Exp: 100, Actors: []string{"c:app", "u:ann"}, Level: 2}
	text, e := grants(t, r, n, 6, drawn(7))
	fits(t, e)
	same(t, "another", done(t, r, inspect(text), 6), api.Reply{Status: 200, Active: true, Claims: api.Claims{Iss: "https://id.example", Sub: "u:bob", Aud: "https://api", Jti: base(drawn(7)), Iat: 6, Exp: 100, Scope: []string{"a"}, Act: []string{"c:app", "u:ann"}, Level: 2}})
	fits(t, r.P.SetActive("bob", false))
	same(t, "inactive", done(t, r, inspect(text), 6), api.Reply{Status: 200})
}

func TestP175Info(t *testing.T) {
	r := realm(t)
	texts := tokens(t, r)
	same(t, "ann", done(t, r, info(texts["access"]), 54), api.Reply{Status: 200, Text: "u:ann", Scope: []string{"openid", "read"}})
	refused(t, r, info(texts["access"]), 55, api.ErrOauthToken)
	for _, what := range []string{"refresh", "code", "session", "id", "ticket", "jti"} {
		refused(t, r, info(texts[what]), 6, api.ErrOauthToken)
	}
	for _, text := range wrong() {
		refused(t, r, info(text), 6, api.ErrOauthToken)
	}
	for i, scope := range []string{"read", "openid", "mail openid"} {
		text := done(t, r, byClient(scope), 6, drawn(10+i)).Access
		if scope == "read" {
			refused(t, r, info(text), 6, api.ErrOauthToken)
			continue
		}
		same(t, "app", done(t, r, info(text), 6), api.Reply{Status: 200, Text: "c:app", Scope: strings.Fields(scope)})
	}
	fits(t, r.F.Kill(1))
	refused(t, r, info(texts["access"]), 6, api.ErrOauthToken)
}

// Till: no later than the clock goes.
func TestP175TheEndOfTime(t *testing.T) {
	for _, x := range []struct{ now, access, refresh, code int }{
		{0, 50, 200, 20}, {api.MaxTick - 1, api.MaxTick, api.MaxTick, api.MaxTick}, {api.MaxTick - 20, api.MaxTick, api.MaxTick, api.MaxTick}, {api.MaxTick - 50, api.MaxTick, api.MaxTick, api.MaxTick - 30},
		{api.MaxTick - 51, api.MaxTick - 1, api.MaxTick, api.MaxTick - 31},
	} {
		r := realm(t)
		n := session("u:ann", "s-long", 1)
		n.Exp = api.MaxTick
		plants(t, r, n)
		code := done(t, r, authorize("s-long", "read openid"), x.now, drawn(1))
		n, _ = r.F.Find(code.Grant)
		same(t, "code", n.Exp, x.code)
		got := done(t, r, byCode(code.Grant), x.now, drawnAll(2, 2)...)
		same(t, "expires", got.Expires, 50)
		refresh, access := lastNodes(r)
		same(t, "till", []int{access.Exp, refresh.Exp}, []int{x.access, x.refresh})
	}
	r := realm(t)
	got := done(t, r, byClient("read"), api.MaxTick, drawn(1))
	same(t, "expires", got.Expires, 50)
	n, _ := r.F.Find(base(drawn(1)))
	same(t, "born and over", []int{n.Born, n.Exp}, []int{api.MaxTick, api.MaxTick})
	same(t, "active", done(t, r, by(inspect(got.Access), "app"), api.MaxTick).Active, false)
	same(t, "active", done(t, r, by(inspect(got.Access), "app"), api.MaxTick-1).Active, true)
	// The greatest of all.
	r.C.AccessTtl = 1 << 30
	same(t, "expires", done(t, r, byClient("read"), 7, drawn(2)).Expires, 1<<30)
	n, _ = r.F.Find(base(drawn(2)))
	same(t, "till", n.Exp, 1<<30+7)
}

// Secrets that are there already are passed over, also by the second of two that are drawn.
func TestP175Draws(t *testing.T) {
	r, code := coded(t, "read openid")
	got := done(t, r, byCode(code.Grant), 12, drawn(1), drawn(1), drawn(2), drawn(1), drawn(2), drawn(3), "left")
	n, _ := oauth.Named(r, got.Access)
	same(t, "secrets", []string{n.Secret, got.Refresh}, []string{base(drawn(2)), base(drawn(3))})
	r, code = coded(t, "read openid")
	refused(t, r, byCode(code.Grant), 12, api.ErrDraw, drawn(2), drawn(2), drawn(1))
	refused(t, r, byCode(code.Grant), 12, api.ErrDraw, drawn(2), "short", drawn(3))
	refused(t, r, byCode(code.Grant), 12, api.ErrDraw, append(slices.Repeat([]string{drawn(2)}, 8), drawn(3))...)
	done(t, r, byCode(code.Grant), 12, append(slices.Repeat([]string{drawn(2)}, 7), drawn(3))...)
}
