package oauth_test

import (
	"fmt"
	"maps"
	"math/rand"
	"slices"
	"strings"
	"sync"
	"testing"
	"unsafe"

	"seneschal/api"
	"seneschal/oauth"
)

// taken: a code as it was asked for, or a refresh token, and who got it.
type taken struct{ secret, client, redirect, verifier string }

// walk: a realm on which requests come by chance, and what was got so far.
type walk struct {
	testing.TB
	r         *oauth.Realm
	by        *rand.Rand
	now, draw int
	codes     []taken
	refreshes []taken
	texts     []string
	met       map[string]int // how often each kind of request was answered how
	times     map[int]int    // how often each node was taken
	over      map[int]bool   // nodes that are never usable again
}

func newWalk(t testing.TB, seed int64) *walk {
	return &walk{TB: t, r: realm(t), by: rand.New(rand.NewSource(seed)), now: 2, met: map[string]int{}, times: map[int]int{}, over: map[int]bool{}}
}

// often: in most cases.
func (w *walk) often() bool { return w.by.Intn(8) > 0 }

// drawn: what is drawn by chance, most of it unlike all others.
func (w *walk) drawn() []string {
	var l []string
	for range anyOf(w.by, 3, 3, 3, 3, 2, 1, 0, 9) {
		w.draw++
		l = append(l, drawn(w.draw))
	}
	if len(l) > 0 && w.by.Intn(12) == 0 {
		l[w.by.Intn(len(l))] = anyOf(w.by, "short", "", long(17))
	}
	if len(l) > 1 && w.by.Intn(8) == 0 {
		// There already by the time it is drawn for the second time; no secret that is gone comes again.
		l[1] = l[0]
	}
	return l
}

func (w *walk) client() string { return anyOf(w.by, "web", "app", "spa", "bot", "idle", "none") }

// scope: a text of some.
func (w *walk) scope() string {
	var l []string
	for _, s := range []string{"openid", "read", "mail", "admin", "write", "extra"} {
		if w.by.Intn(3) > 0 {
			l = append(l, s)
		}
	}
	w.by.Shuffle(len(l), func(i, j int) { l[i], l[j] = l[j], l[i] })
	return strings.Join(l, anyOf(w.by, " ", " ", " ", " ", " ", " ", " ", " ", " ", "  "))
}

// backs of a client.
func backs(id string) []string {
	for _, c := range clients() {
		if c.Id == id {
			return c.Redirects
		}
	}
	return nil
}

func (w *walk) authorize() api.Ask {
	a := authorize(anyOf(w.by, "s-ann", "s-ann", "s-ann2", "s-ann2", "s-bob", "s-app", "s-cid", "s-dead", "s-web", fmt.Sprint("s-", w.by.Intn(10))), w.scope())
	a.Client = w.client()
	if w.often() {
		a.Client = anyOf(w.by, "web", "app", "spa")
	}
	a.Redirect = anyOf(w.by, append(backs(a.Client), webBack)...)
	a.Challenge = challengeOf(anyOf(w.by, verifier, "v2"))
	if !w.often() {
		a.Challenge, a.Nonce = anyOf(w.by, a.Challenge, "x"), anyOf(w.by, "", "a b", long(128))
	}
	return a
}

func (w *walk) byCode() api.Ask {
	x := anyOf(w.by, append(w.codes[max(0, len(w.codes)-1-w.by.Intn(4)):], taken{"none", "web", webBack, verifier})...)
	a := by(byCode(x.secret), x.client)
	a.Redirect, a.Verifier = x.redirect, x.verifier
	if !w.often() {
		anyOf(w.by, func() { a.Redirect = webOther }, func() { a.Verifier = "v2" }, func() { a = by(a, w.client()) }, func() { a.Secret = "x" }, func() { a.Code = w.text() })()
	}
	return a
}

func (w *walk) byRefresh() api.Ask {
	x := anyOf(w.by, append(w.refreshes[max(0, len(w.refreshes)-1-w.by.Intn(4)):], taken{"none", "web", "", ""})...)
	a := by(byRefresh(x.secret, anyOf(w.by, "", "", "", "openid", "read", w.scope())), x.client)
	if !w.often() {
		anyOf(w.by, func() { a.Token = w.text() }, func() { a = by(a, w.client()) }, func() { a.Secret = "x" })()
	}
	return a
}

// text: one that was told, most of the late ones, or another one.
func (w *walk) text() string {
	return anyOf(w.by, append(w.texts[max(0, len(w.texts)-1-w.by.Intn(40)):], "none")...)
}

// ask: a request by chance.
func (w *walk) ask() api.Ask {
	c := anyOf(w.by, "web", "app", w.client())
	byClient := by(byClient(w.scope()), anyOf(w.by, "app", "bot", c))
	if !w.often() {
		byClient.Audience = anyOf(w.by, "", "a b")
	}
	return anyOf(w.by,
		w.authorize(), w.authorize(), w.byCode(), w.byCode(), w.byRefresh(), w.byRefresh(), w.byRefresh(),
		byClient, by(anyOf(w.by, revoke(w.text()), inspect(w.text()), inspect(w.text())), c), by(inspect(w.text()), c), info(w.text()),
		api.Ask{Kind: w.by.Intn(api.Asks + 1), Client: c, Token: w.text()},
	)
}

// turn: something of the realm becomes otherwise, which no request of this layer does.
func (w *walk) turn(scopesStay bool) {
	name := anyOf(w.by, "ann", "bob", "cid")
	id := anyOf(w.by, "web", "app", "spa", "bot")
	anyOf(w.by,
		func() { w.r.P.SetActive(name, w.by.Intn(2) > 0) },
		func() { w.r.P.SetActive(name, true) },
		func() { w.r.P.SetActive("ann", true) },
		func() { w.r.P.Leave("staff", name) },
		func() { w.r.P.Join("staff", name) },
		func() { w.r.P.Join("staff", name) },
		func() {
			clientWith(w, w.r, id, func(c *api.Client) {
				c.Code, c.Own, c.Refresh = w.often(), w.often(), w.often()
			})
		},
		func() {
			if !scopesStay {
				clientWith(w, w.r, id, func(c *api.Client) { c.Scopes = slices.Sorted(slices.Values(strings.Fields(w.scope()))) })
			}
		},
		func() { w.r.P.DropClient(id) },
		func() {
			for _, c := range clients() {
				fits(w, w.r.P.PutClient(c))
			}
		},
		func() { w.r.R.Turn(fmt.Sprint("seed ", w.by.Intn(50))) },
		func() { w.r.F.Kill(1 + w.by.Intn(100)) },
		func() {
			n := session("u:"+name, fmt.Sprint("s-", w.by.Intn(10)), 1+w.by.Intn(3))
			n.Exp = w.now + w.by.Intn(400)
			w.r.F.Plant(n, w.now)
		},
	)()
}

// step: a request, and what became of it.
func (w *walk) step() {
	w.Helper()
	a, draws := w.ask(), w.drawn()
	before := modelOf(w.r, draws)
	reply := asks(w, w.r, a, w.now, draws...)
	w.met[fmt.Sprint(a.Kind, " ", int(reply.Code))]++
	if reply.Code == api.OK {
		w.keep(a, reply)
	}
	w.isOnce(a, reply, before)
	w.isLess(a, before)
	w.isOver(a, reply, before)
}

// keep what is told.
func (w *walk) keep(a api.Ask, reply api.Reply) {
	if reply.Grant != "" {
		v := verifier
		if a.Challenge != challengeOf(v) {
			v = "v2"
		}
		w.codes = append(w.codes, taken{reply.Grant, a.Client, a.Redirect, v})
	}
	if reply.Refresh != "" {
		w.refreshes = append(w.refreshes, taken{reply.Refresh, a.Client, "", ""})
	}
	for _, text := range []string{reply.Grant, reply.Refresh, reply.Access, reply.Id} {
		if text != "" {
			w.texts = append(w.texts, text)
		}
	}
}

// isOnce: a code, or a refresh token, is taken but once, by whom it was given.
func (w *walk) isOnce(a api.Ask, reply api.Reply, before *model) {
	w.Helper()
	if reply.Code != api.OK || a.Kind != api.AskByCode && a.Kind != api.AskByRefresh {
		return
	}
	l, secret := w.codes, a.Code
	if a.Kind == api.AskByRefresh {
		l, secret = w.refreshes, a.Token
	}
	if !slices.Contains(l, taken{secret, a.Client, a.Redirect, a.Verifier}) {
		w.Errorf("%+v takes what it was not given", a)
	}
	n := before.by(secret)
	w.times[n.Id]++
	if w.times[n.Id] > 1 {
		w.Errorf("%+v is taken again", n)
	}
}

// isLess: what came may no more than that of which it came, nor than its client, nor than its subject may now (a code's tokens may what the code may).
func (w *walk) isLess(a api.Ask, before *model) {
	w.Helper()
	for _, n := range w.r.F.Nodes() {
		if n.Id < before.next {
			continue
		}
		c, _ := w.r.P.Client(n.Client)
		up := before.at(n.Parent)
		switch {
		case a.Kind == api.AskByClient:
			if !within(n.Scope, c.Scopes) || n.Subject != "c:"+c.Id || n.Parent != 0 {
				w.Errorf("%+v of %+v", n, c)
			}
			continue
		case n.Kind == api.Code:
			if !within(n.Scope, c.Scopes) || up.Kind != api.Session {
				w.Errorf("%+v of %+v, %+v", n, c, up)
			}
		case !within(n.Scope, up.Scope) || n.Client != up.Client || up.Kind != api.Code && up.Kind != api.Refresh:
			w.Errorf("%+v on %+v", n, up)
		}
		if n.Subject != up.Subject || n.Level > up.Level {
			w.Errorf("%+v on %+v", n, up)
		}
		if n.Kind == api.Code || a.Kind == api.AskByRefresh && n.Kind == api.Access {
			if len(of(n.Scope, func(s string) bool { return before.may(n.Subject, s) })) < len(n.Scope) {
				w.Errorf("%+v is more than its subject may", n)
			}
		}
	}
}

// isOver: what was revoked, or met again, is over, and all that hung on it.
func (w *walk) isOver(a api.Ask, reply api.Reply, before *model) {
	w.Helper()
	var end *api.Node
	if n := before.named(a.Token); a.Kind == api.AskRevoke && reply.Code == api.OK && n != nil && n.Client == a.Client {
		end = n
	}
	if n := before.find(api.Refresh, a.Token); a.Kind == api.AskByRefresh && reply.Code == api.ErrOauthGrant && n != nil && n.Spent && n.Client == a.Client {
		end = n
	}
	x := taken{a.Code, a.Client, a.Redirect, a.Verifier}
	if n := before.find(api.Code, a.Code); a.Kind == api.AskByCode && reply.Code == api.ErrOauthGrant && n != nil && n.Spent && slices.Contains(w.codes, x) {
		end = n
	}
	for _, n := range w.r.F.Nodes() {
		for _, id := range w.r.F.Path(n.Id) {
			w.over[n.Id] = w.over[n.Id] || w.over[id] || end != nil && id == end.Id
		}
		if w.over[n.Id] && (oauth.Usable(w.r, n, w.now) || oauth.Usable(w.r, n, 0)) {
			w.Errorf("%+v is usable behind its end", n)
		}
	}
}

// Requests by chance, among changes by chance, are answered as the model answers them.
func TestP176RequestsByChance(t *testing.T) {
	met := map[string]int{}
	for seed := range int64(40) {
		w := newWalk(t, seed)
		for range 220 {
			w.step()
			if w.by.Intn(9) == 0 {
				w.turn(seed%2 == 0)
			}
			w.now += anyOf(w.by, 0, 0, 1, 1, 1, 2, w.by.Intn(12))
			if t.Failed() {
				t.Fatalf("seed %d", seed)
			}
		}
		for what, n := range w.met {
			met[what] += n
		}
	}
	for kind, codes := range map[int][]int{
		api.AskAuthorize: {0, 176, 170, 174, 175, 173, 172, 177, 3},
		api.AskByCode:    {0, 170, 174, 171, 3},
		api.AskByClient:  {0, 170, 174, 172, 173, 3},
		api.AskByRefresh: {0, 170, 174, 171, 172, 3},
		api.AskRevoke:    {0, 170},
		api.AskInspect:   {0, 170},
		api.AskInfo:      {0, 176},
	} {
		for _, code := range codes {
			if what := fmt.Sprint(kind, " ", code); met[what] < 8 {
				t.Errorf("%s: met %d times: %v", what, met[what], slices.Sorted(maps.Keys(met)))
			}
		}
	}
}

// What a token may is never more than its client may, as long as nobody takes from that.
func TestP176LessThanTheClient(t *testing.T) {
	for seed := range int64(8) {
		w := newWalk(t, 100+seed)
		for range 200 {
			w.step()
			for _, n := range w.r.F.Nodes() {
				for _, c := range clients() {
					if n.Client == c.Id && n.Kind != api.Session && !within(n.Scope, c.Scopes) {
						t.Fatalf("%+v of %+v", n, c)
					}
				}
			}
		}
	}
}

// A session's end is that of all that came of it.
func TestP176TheSessionEnds(t *testing.T) {
	r, first := refreshed(t, "read openid")
	got := done(t, r, byRefresh(first.Refresh, ""), 13, drawnAll(4, 2)...)
	code := done(t, r, authorize("s-ann", "read"), 13, drawn(6))
	fits(t, r.F.Kill(1))
	for _, text := range []string{first.Access, got.Access, got.Refresh} {
		same(t, "active", done(t, r, inspect(text), 13).Active, false)
	}
	refused(t, r, byRefresh(got.Refresh, ""), 13, api.ErrOauthGrant, drawnAll(7, 2)...)
	refused(t, r, byCode(code.Grant), 13, api.ErrOauthGrant, drawnAll(7, 2)...)
}

// volatile: texts whose bytes become other ones by spoil, as if somebody else took their memory.
type volatile struct{ all [][]byte }

func (v *volatile) text(s string) string {
	b := append([]byte(s), 0)[:len(s)]
	v.all = append(v.all, b)
	return unsafe.String(unsafe.SliceData(b), len(b))
}

func (v *volatile) texts(l []string) []string {
	var r []string
	for _, s := range l {
		r = append(r, v.text(s))
	}
	return r
}

// ask with texts that are volatile.
func (v *volatile) ask(a api.Ask) api.Ask {
	for _, s := range []*string{&a.Session, &a.Code, &a.Token, &a.Client, &a.Secret, &a.Redirect, &a.Scope, &a.Audience, &a.Challenge, &a.Verifier, &a.Nonce} {
		*s = v.text(*s)
	}
	return a
}

func (v *volatile) spoil() {
	for _, b := range v.all {
		for i := range b {
			b[i] = 'X'
		}
	}
}

func TestR4WhatIsAnsweredIsNew(t *testing.T) {
	var v volatile
	r := realm(t)
	r.C.Issuer = v.text(r.C.Issuer)
	clone := r.Clone()
	var got []any
	for i, a := range []api.Ask{authorize("s-ann", "read openid"), byCode(base(drawn(0))), byRefresh(base(drawn(11)), "read"), byClient("mail read"), inspect(base(drawn(21))), revoke(base(drawn(21)))} {
		tape := oauth.NewTape(v.texts(drawnAll(10*i, 2)))
		got = append(got, oauth.Do(r, v.ask(a), 11, tape))
	}
	n := api.Node{Parent: 2, Subject: v.text("u:ann"), Client: v.text("web"), Audience: v.text("api"), Scope: v.texts([]string{"a", "b"}), Exp: 77, Actors: v.texts([]string{"c:app"}), Data: v.text("d")}
	text, e := oauth.Grant(r, n, 11, oauth.NewTape(v.texts(drawnAll(90, 1))))
	found, ok := oauth.Bearer(r, v.text(text), 11)
	who, isThere := oauth.Who(r, v.text("s-ann"), 11)
	c, fault := oauth.Auth(r, v.text("app"), v.text("app's"))
	scopes, fit := oauth.Scopes(v.text("b a"))
	tape := oauth.NewTape(v.texts(drawnAll(80, 3)))
	raw, _ := tape.Raw()
	secret, _ := tape.Secret(r.F)
	rows, others := fmt.Sprintf("%q", r.F.Rows()), othersOf(clone)
	texts := append(got, text, e, found, ok, who, isThere, c, fault, scopes, fit, raw, secret)
	before := strings.Clone(told(texts))
	v.spoil()
	same(t, "answers", told(texts), before)
	same(t, "rows", fmt.Sprintf("%q", r.F.Rows()), rows)
	same(t, "clone", othersOf(clone), others)
	left, _ := tape.Raw()
	same(t, "tape", left, drawn(82))
}

func TestR4ListsAreNeitherKeptNorShared(t *testing.T) {
	room := append(drawnAll(0, 3), "behind")
	tape := oauth.NewTape(room[:3])
	copy(room, []string{"a", "b", "c", "d"})
	one, _ := tape.Raw()
	same(t, "draw", one, drawn(0))
	r := realm(t)
	scope, actors := []string{"a", "b", "behind"}, []string{"c:app", "behind"}
	_, e := oauth.Grant(r, api.Node{Subject: "u:ann", Scope: scope[:2], Actors: actors[:1], Exp: 77}, 11, tape)
	same(t, "handed in", []any{e, scope, actors}, []any{api.OK, []string{"a", "b", "behind"}, []string{"c:app", "behind"}})
	scope[0], actors[0] = "x", "y"
	n, _ := lastNodes(r)
	same(t, "kept", []any{n.Scope, n.Actors}, []any{[]string{"a", "b"}, []string{"c:app"}})
	// What is answered is the caller's: he may write into it, and behind it.
	rows := fmt.Sprintf("%q", r.F.Rows())
	spoil := func(l []string) {
		l = l[:cap(l)]
		for i := range l {
			l[i] = "spoiled"
		}
	}
	who, _ := oauth.Who(r, "s-ann", 11)
	spoil(who.Scope)
	text, e := oauth.Grant(r, n, 11, oauth.NewTape(drawnAll(5, 1)))
	fits(t, e)
	rows = fmt.Sprintf("%q", r.F.Rows())
	for range 2 {
		bearer, _ := oauth.Bearer(r, text, 11)
		reply := oauth.Do(r, inspect(text), 11, oauth.NewTape(nil))
		same(t, "claims", []any{reply.Claims.Scope, reply.Claims.Act, bearer.Scope, bearer.Actors}, []any{[]string{"a", "b"}, []string{"c:app"}, []string{"a", "b"}, []string{"c:app"}})
		for _, l := range [][]string{reply.Claims.Scope, reply.Claims.Act, bearer.Scope, bearer.Actors} {
			spoil(l)
		}
	}
	c, _ := oauth.Auth(r, "app", "app's")
	spoil(c.Scopes)
	spoil(c.Redirects)
	code := done(t, r, authorize("s-ann", "read openid"), 11, drawn(6))
	got := done(t, r, byCode(code.Grant), 11, drawnAll(7, 2)...)
	before := fmt.Sprintf("%q", r.F.Rows())
	spoil(code.Scope)
	spoil(got.Scope)
	same(t, "rows", fmt.Sprintf("%q", r.F.Rows()), before)
	l, _ := oauth.Scopes("b a c")
	spoil(l[:1:1])
	same(t, "the others", l[1:], []string{"b", "c"})
	if rows == before {
		t.Error("nothing came")
	}
}

// R5: what clones are asked for at the same time shows in no answer.
func TestR5AtTheSameTime(t *testing.T) {
	r := realm(t)
	var wait sync.WaitGroup
	told := make([]string, 16)
	for i := range told {
		c := r.Clone()
		wait.Add(1)
		go func() {
			defer wait.Done()
			code := oauth.Do(c, authorize("s-ann", "read openid"), 11, oauth.NewTape(drawnAll(1, 1)))
			got := oauth.Do(c, byCode(code.Grant), 11, oauth.NewTape(drawnAll(2, 2)))
			told[i] = fmt.Sprintf("%+v %+v %q", code, got, c.F.Rows())
		}()
	}
	wait.Wait()
	same(t, "unlike answers", len(slices.Compact(told)), 1)
	same(t, "the original", len(r.F.Nodes()), len(realm(t).F.Nodes()))
}

func FuzzR1EndsAtAnything(f *testing.F) {
	f.Add(int(api.AskAuthorize), "s-ann", "web", "", webBack, "read openid", challengeOf(verifier), "nonce", drawn(1), 11, 50)
	f.Add(int(api.AskByCode), "the code", "web", "", webBack, "", verifier, "", drawn(2), 11, 50)
	f.Add(int(api.AskByRefresh), "own", "app", "app's", "", "mail", "", "", drawn(3), 40, 1)
	f.Add(int(api.AskByClient), "", "bot", "bot's", "https://api", "read admin", "", "", drawn(4), 1<<40, 1<<30)
	f.Add(0, "\xff", "a b", "\x00", "", "a  a", "", "", "", -1<<63, 0)
	f.Fuzz(func(t *testing.T, kind int, secret, client, pass, redirect, scope, challenge, nonce, draw string, now, ttl int) {
		r := realm(t)
		r.C.AccessTtl = ttl
		plants(t, r, api.Node{Kind: api.Code, Parent: 1, Subject: "u:ann", Client: "web", Scope: []string{"openid", "read"}, Exp: 100, Secret: "the code", Data: theRow(webBack, challengeOf(verifier), "n")})
		plants(t, r, api.Node{Kind: api.Refresh, Subject: "c:app", Client: "app", Scope: []string{"mail", "read"}, Exp: 100, Secret: "own"})
		draws := []string{draw, drawn(7), draw, drawn(8), redirect}
		a := api.Ask{Kind: kind, Session: secret, Code: secret, Token: secret, Client: client, Secret: pass, Redirect: redirect, Scope: scope, Audience: redirect, Challenge: challenge, Verifier: challenge, Nonce: nonce}
		asks(t, r, a, now, draws...)
		for kind := range api.Asks {
			a.Kind = kind
			asks(t, r, a, now, draws...)
		}
		finds(t, r, secret, now)
		text, _ := grants(t, r, api.Node{Parent: ttl, Subject: client, Client: redirect, Audience: redirect, Scope: []string{scope}, Actors: []string{client}, Exp: now, Data: nonce, Level: kind}, now, draws...)
		finds(t, r, text, now)
		l, ok := oauth.Scopes(scope)
		want, wantOk := scopesOf(scope)
		same(t, "Scopes", []any{l, ok}, []any{want, wantOk})
		c := api.Config{Issuer: redirect, Root: client, RootSecret: secret, Seed: pass, SessionTtl: ttl, CodeTtl: 1, AccessTtl: max(1, ttl), RefreshTtl: 1 << 30, TicketTtl: 7}
		same(t, "Check", oauth.Check(c) == api.OK, mayBeConfig(c))
		same(t, "Status", oauth.Status(api.Errno(kind)), statusOf(api.Errno(kind)))
	})
}
