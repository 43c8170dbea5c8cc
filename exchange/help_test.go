package exchange_test

import (
	"crypto/sha256"
	"encoding/base64"
	"encoding/hex"
	"fmt"
	"math/rand"
	"regexp"
	"slices"
	"strings"
	"testing"

	"seneschal/api"
	"seneschal/exchange"
	"seneschal/forest"
	"seneschal/login"
	"seneschal/oauth"
	"seneschal/people"
	"seneschal/sign"
	"seneschal/token"
)

func base(s string) string { return base64.RawURLEncoding.EncodeToString([]byte(s)) }

func hexSum(s string) string {
	sum := sha256.Sum256([]byte(s))
	return hex.EncodeToString(sum[:])
}

// drawn: a draw that counts, and drawnAll some, all unlike.
func drawn(n int) string { return fmt.Sprintf("draw %011d", n) }

func drawnAll(from, count int) []string {
	var l []string
	for i := range count {
		l = append(l, drawn(from+i))
	}
	return l
}

// long: so many bytes.
func long(n int) string { return strings.Repeat("x", n) }

// scopesOfAll: so many scopes, all unlike, rising.
func scopesOfAll(n int) []string {
	var l []string
	for i := range n {
		l = append(l, fmt.Sprintf("%02d", i)+strings.Repeat(":", 30))
	}
	return l
}

// anyOf: one of these.
func anyOf[T any](r *rand.Rand, l ...T) T { return l[r.Intn(len(l))] }

// within: a list is of another one.
func within(l, of []string) bool {
	return !slices.ContainsFunc(l, func(s string) bool { return !slices.Contains(of, s) })
}

// config: one that may be.
func config() api.Config {
	return api.Config{Issuer: "https://id.example", Root: "root", RootSecret: "the root's", Seed: "seed", SessionTtl: 500, CodeTtl: 20, AccessTtl: 50, RefreshTtl: 200, TicketTtl: 30}
}

// clients: web may not swap; spa and bare are public.
func clients() []api.Client {
	return []api.Client{
		{Id: "app", Secret: hexSum("app's"), Scopes: []string{"mail", "openid", "read"}, Own: true, Swap: true},
		{Id: "bot", Secret: hexSum("bot's"), Scopes: []string{"admin", "read", "write"}, Own: true, Swap: true},
		{Id: "spa", Scopes: []string{"openid", "read"}, Swap: true},
		{Id: "bare", Swap: true},
		{Id: "idle", Secret: hexSum(""), Scopes: []string{"read"}, Swap: true},
		{Id: "web", Secret: hexSum("web's"), Redirects: []string{"https://web/cb"}, Scopes: []string{"admin", "extra", "mail", "openid", "read", "write"}, Code: true, Own: true, Refresh: true},
	}
}

// secretOf a client.
func secretOf(id string) string {
	return map[string]string{"app": "app's", "bot": "bot's", "web": "web's"}[id]
}

// mays: who may act for whom. Nobody may for itself but app.
func mays() []api.May {
	return []api.May{
		{Actor: "c:app", Subject: "u:ann"}, {Actor: "c:app", Subject: "u:bob"}, {Actor: "c:app", Subject: "c:bot"}, {Actor: "c:app", Subject: "c:app"}, {Actor: "c:app", Subject: "u:cid"},
		{Actor: "c:spa", Subject: "u:ann"}, {Actor: "c:bare", Subject: "u:ann"}, {Actor: "c:idle", Subject: "u:ann"}, {Actor: "c:web", Subject: "u:ann"},
		{Actor: "c:bot", Subject: "u:bob"}, {Actor: "u:bob", Subject: "u:ann"}, {Actor: "u:cid", Subject: "u:ann"}, {Actor: "c:bot", Subject: "u:ann"},
	}
}

// fits: OK, or the test is over.
func fits(t testing.TB, errors ...api.Errno) {
	t.Helper()
	for i, e := range errors {
		if e != api.OK {
			t.Fatalf("call %d: %d", i, e)
		}
	}
}

// folk: ann, bob, and cid, who is not active; what they hold matters to no exchange.
func folk(t testing.TB) *people.People {
	t.Helper()
	p := people.New()
	fits(t, p.AddUser("ann", "a@x"), p.AddUser("bob", "b@x"), p.AddUser("cid", "c@x"), p.SetActive("cid", false))
	for _, c := range clients() {
		fits(t, p.PutClient(c))
	}
	for _, m := range mays() {
		fits(t, p.Allow(m.Actor, m.Subject))
	}
	return p
}

// desk: a realm, and the access tokens that were given out in it, by names.
type desk struct {
	testing.TB
	*oauth.Realm
	texts map[string]string
	ids   map[string]int
}

// gives a token of a node, at a time 2.
func (d *desk) gives(name string, n api.Node) string {
	d.Helper()
	n.Kind, n.Born, n.Secret = api.Access, 2, "jti of "+name
	d.texts[name] = d.textOf(d.plants(name, n))
	return d.texts[name]
}

func (d *desk) plants(name string, n api.Node) api.Node {
	d.Helper()
	id, e := d.F.Plant(n, 2)
	fits(d, e)
	d.ids[name] = id
	n.Id = id
	return n
}

// textOf a node: its access token.
func (d *desk) textOf(n api.Node) string {
	d.Helper()
	text, e := token.Access(d.R, api.Claims{Iss: d.C.Issuer, Sub: n.Subject, Aud: n.Audience, Client: n.Client, Jti: n.Secret, Iat: n.Born, Exp: n.Exp, Scope: n.Scope, Act: n.Actors, Level: n.Level})
	fits(d, e)
	return text
}

// node of a name.
func (d *desk) node(name string) api.Node {
	d.Helper()
	n, ok := d.F.Get(d.ids[name])
	if !ok {
		d.Fatalf("no node %s", name)
	}
	return n
}

// last node of the forest.
func (d *desk) last() api.Node {
	l := d.F.Nodes()
	return l[len(l)-1]
}

// open a desk with tokens of all kinds. Those that are for ann, but for stale ones, last till 300, those of others till 100.
func open(t testing.TB) *desk {
	t.Helper()
	d := &desk{t, &oauth.Realm{P: folk(t), F: forest.New(), L: login.New(), R: sign.NewRing("seed"), C: config()}, map[string]string{}, map[string]int{}}
	fits(t, d.L.Set("ann", "0123456789abcdef", "pw"))
	d.plants("s-ann", api.Node{Kind: api.Session, Subject: "u:ann", Exp: 500, Level: 2, Secret: "s-ann"})
	d.plants("s-bob", api.Node{Kind: api.Session, Subject: "u:bob", Exp: 500, Level: 3, Secret: "s-bob"})
	d.plants("s-dead", api.Node{Kind: api.Session, Subject: "u:ann", Exp: 500, Level: 1, Secret: "s-dead"})
	d.plants("r-ann", api.Node{Kind: api.Refresh, Subject: "u:ann", Exp: 500, Secret: "r-ann", Scope: []string{"read"}})
	d.plants("k-ann", api.Node{Kind: api.Code, Subject: "u:ann", Exp: 500, Secret: "k-ann", Scope: []string{"read"}})
	d.plants("t-ann", api.Node{Kind: api.Ticket, Subject: "u:ann", Exp: 500, Secret: "t-ann"})
	ann := api.Node{Parent: d.ids["s-ann"], Subject: "u:ann", Client: "web", Audience: "https://web", Scope: []string{"mail", "openid", "read", "write"}, Exp: 300, Level: 2, Data: "data"}
	bob := api.Node{Parent: d.ids["s-bob"], Subject: "u:bob", Client: "web", Scope: []string{"read"}, Exp: 100, Level: 3}
	with := func(n api.Node, change func(n *api.Node)) api.Node {
		change(&n)
		return n
	}
	d.gives("ann", ann)
	d.gives("bob", bob)
	chains := []string{"u:bob", "c:bot", "u:gone", "c:app"}
	for i := range chains {
		d.gives(fmt.Sprint("ann", i+1), with(ann, func(n *api.Node) { n.Actors = chains[:i+1] }))
		d.gives(fmt.Sprint("bob", i+1), with(bob, func(n *api.Node) { n.Actors = chains[3-i:] }))
	}
	d.gives("bot", api.Node{Subject: "c:bot", Client: "bot", Scope: []string{"admin", "read", "write"}, Exp: 100})
	d.gives("app", api.Node{Subject: "c:app", Client: "app", Scope: []string{"mail", "read"}, Exp: 100, Audience: "https://api"})
	d.gives("bare", with(ann, func(n *api.Node) { n.Scope, n.Parent, n.Level, n.Client = nil, 0, 0, "" }))
	d.gives("short", with(ann, func(n *api.Node) { n.Exp = 21 }))
	d.gives("cid", with(ann, func(n *api.Node) { n.Subject = "u:cid" }))
	d.gives("old", with(ann, func(n *api.Node) { n.Exp = 11 }))
	d.gives("gone", with(ann, func(n *api.Node) { n.Client = "gone" }))
	d.gives("spent", ann)
	d.gives("killed", ann)
	d.gives("below", with(ann, func(n *api.Node) { n.Parent = d.ids["s-dead"] }))
	fits(t, d.F.Spend(d.ids["spent"], 3), d.F.Kill(d.ids["killed"]), d.F.Kill(d.ids["s-dead"]))
	return d
}

// stale: the tokens, and what else there is as a text, that nothing is given for at 11.
func (d *desk) stale() map[string]string {
	l := map[string]string{"a session": "s-ann", "a refresh": "r-ann", "a code": "k-ann", "a ticket": "t-ann", "a jti": "jti of ann", "none": "none", "a principal": "u:ann", "a number": "7", "bytes": "\xff\x00", "dots": "..", "much": long(1 << 16)}
	for _, name := range []string{"cid", "old", "gone", "spent", "killed", "below"} {
		l[name] = d.texts[name]
	}
	good := d.texts["ann"]
	l["one byte more"], l["one byte less"], l["a blank ahead"] = good+" ", good[:len(good)-1], " "+good
	c := api.Claims{Iss: d.C.Issuer, Sub: "u:ann", Aud: "web", Client: "web", Jti: "jti of ann", Exp: 300}
	id, e := token.Id(d.R, c)
	fits(d, e)
	l["an id token"] = id
	l["of another ring"], e = token.Access(sign.NewRing("else"), c)
	fits(d, e)
	c.Jti = "r-ann"
	l["a refresh's jti"], e = token.Access(d.R, c)
	fits(d, e)
	return l
}

// swap: an ask of app for a token.
func (d *desk) swap(name, actor, scope string) api.Ask {
	return api.Ask{Kind: api.AskExchange, Client: "app", Secret: "app's", Token: d.texts[name], Actor: d.texts[actor], Scope: scope}
}

// by: an ask of a client, with its secret.
func by(a api.Ask, client string) api.Ask {
	a.Client, a.Secret = client, secretOf(client)
	return a
}

// clientWith puts a client anew.
func (d *desk) clientWith(id string, change func(c *api.Client)) {
	d.Helper()
	c, _ := d.P.Client(id)
	c.Id = id
	change(&c)
	fits(d, d.P.PutClient(c))
}

// fill the forest with nodes that last long, till there is so much room.
func (d *desk) fill(room int) {
	d.Helper()
	d.F.Prune(11)
	for i := len(d.F.Nodes()) + room; i < api.MaxNodes; i++ {
		d.plants("full", api.Node{Kind: api.Session, Subject: "u:bob", Exp: 500, Secret: fmt.Sprint("full ", i)})
	}
}

// rest of a tape: what it would answer.
func rest(tape *oauth.Tape) string {
	c, s := *tape, ""
	for range api.MaxDraws + 1 {
		s += fmt.Sprintln(c.Raw())
	}
	return s
}

// stateOf a realm: all that it tells.
func stateOf(r *oauth.Realm) string {
	return fmt.Sprintf("%q %q %q %q %#v", r.P.Rows(), r.F.Rows(), r.L.Rows(), r.R.Seeds(), r.C)
}

// emptyList: one that is told as such, where nil is told otherwise.
var emptyList = regexp.MustCompile(`(\[\][a-zA-Z.]+)\{\}`)

// told: an answer as a text; a list without anything is no other one than nil.
func told(x any) string { return emptyList.ReplaceAllString(fmt.Sprintf("%#v", x), "$1(nil)") }

// same: two answers.
func same(t testing.TB, what string, got, want any) {
	t.Helper()
	if a, b := told(got), told(want); a != b {
		t.Errorf("%.700s: %.900s; want %.900s", what, a, b)
	}
}

// asks: Do, which answers what the model does, and changes what oauth.Grant of the model's node does.
func (d *desk) asks(a api.Ask, now int, draws ...string) api.Reply {
	d.Helper()
	what := fmt.Sprintf("Do %.300q at %d with %.100q", fmt.Sprint(a), now, draws)
	other, otherTape := d.Realm.Clone(), oauth.NewTape(draws)
	want := expected(other, a, now, otherTape)
	at, tape := *d.Realm, oauth.NewTape(draws)
	got := exchange.Do(d.Realm, a, now, tape)
	same(d, what, got, want)
	same(d, what+": state", stateOf(d.Realm), stateOf(other))
	same(d, what+": tape", rest(tape), rest(otherTape))
	if at != *d.Realm {
		d.Errorf("%s: another realm", what)
	}
	return got
}

// done: Do is OK.
func (d *desk) done(a api.Ask, now int, draws ...string) api.Reply {
	d.Helper()
	reply := d.asks(a, now, draws...)
	if reply.Status != 200 || reply.Code != api.OK {
		d.Fatalf("Do %+v at %d: %d, %d", a, now, reply.Status, reply.Code)
	}
	return reply
}

// refused: Do answers an error, and that alone, and changes nothing.
func (d *desk) refused(what string, a api.Ask, now int, want api.Errno, draws ...string) {
	d.Helper()
	before, tape := stateOf(d.Realm), oauth.NewTape(draws)
	same(d, what, exchange.Do(d.Realm, a, now, tape), api.Reply{Status: oauth.Status(want), Code: want})
	same(d, what+": state behind an error", stateOf(d.Realm), before)
	same(d, what+": tape behind an error", rest(tape), rest(oauth.NewTape(draws)))
	d.asks(a, now, draws...)
}
