package oauth_test

import (
	"fmt"
	"math/rand"
	"slices"
	"strings"
	"testing"

	"seneschal/api"
	"seneschal/forest"
	"seneschal/login"
	"seneschal/oauth"
	"seneschal/people"
	"seneschal/sign"
	"seneschal/token"
)

// config: one that may be.
func config() api.Config {
	return api.Config{Issuer: "https://id.example", Root: "root", RootSecret: "the root's", Seed: "seed", SessionTtl: 500, CodeTtl: 20, AccessTtl: 50, RefreshTtl: 200, TicketTtl: 30}
}

// What is handed in of clients: web's redirects; a verifier.
const (
	webBack  = "https://web/cb"
	webOther = "https://web/other"
	verifier = "a verifier of forty three characters or so."
)

// clients: web and spa are public.
func clients() []api.Client {
	return []api.Client{
		{Id: "web", Redirects: []string{webBack, webOther}, Scopes: []string{"admin", "extra", "mail", "openid", "read"}, Code: true, Refresh: true},
		{Id: "app", Secret: hexSum("app's"), Redirects: []string{"app:/cb"}, Scopes: []string{"mail", "openid", "read"}, Code: true, Own: true, Refresh: true, Swap: true},
		{Id: "spa", Redirects: []string{webBack}, Scopes: []string{"openid", "read"}, Code: true},
		{Id: "bot", Secret: hexSum("bot's"), Scopes: []string{"admin", "read"}, Own: true},
		{Id: "idle", Secret: hexSum(""), Redirects: []string{webBack}, Scopes: []string{"openid", "read"}, Swap: true},
	}
}

// secretOf a client.
func secretOf(id string) string {
	return map[string]string{"app": "app's", "bot": "bot's"}[id]
}

// fits: OK, or the test is over.
func fits(t testing.TB, errors ...api.Errno) {
	t.Helper()
	for i, e := range errors {
		if e != api.OK {
			t.Fatalf("call %d: %d", i, e)
		}
	}
}

// folk: ann may admin, mail, read and write; bob mail and read; cid, who is not active, as ann.
func folk(t testing.TB) *people.People {
	t.Helper()
	p := people.New()
	fits(t,
		p.AddUser("ann", "a@x"), p.AddUser("bob", "b@x"), p.AddUser("cid", "c@x"), p.SetActive("cid", false),
		p.PutRole(api.Role{Name: "boss", Scopes: []string{"admin", "write"}}), p.PutRole(api.Role{Name: "reader", Scopes: []string{"mail", "read"}}),
		p.AddGroup("staff"), p.AddGroup("all"), p.Nest("all", "staff"), p.Give("staff", "boss"), p.Give("all", "reader"),
		p.Join("staff", "ann"), p.Join("all", "bob"), p.Join("staff", "cid"),
	)
	for _, c := range clients() {
		fits(t, p.PutClient(c))
	}
	return p
}

// session of a subject, with a secret.
func session(subject, secret string, level int) api.Node {
	return api.Node{Kind: api.Session, Subject: subject, Born: 1, Exp: 500, Level: level, Secret: secret, Data: "x"}
}

// plants a node, at a time 2.
func plants(t testing.TB, r *oauth.Realm, n api.Node) int {
	t.Helper()
	id, e := r.F.Plant(n, 2)
	fits(t, e)
	return id
}

// realm with sessions of all kinds: those of ann, bob and app are usable.
func realm(t testing.TB) *oauth.Realm {
	t.Helper()
	r := &oauth.Realm{P: folk(t), F: forest.New(), L: login.New(), R: sign.NewRing("seed"), C: config()}
	fits(t, r.L.Set("ann", "0123456789abcdef", "pw"))
	plants(t, r, session("u:ann", "s-ann", 1))
	plants(t, r, session("u:ann", "s-ann2", 2))
	plants(t, r, session("u:bob", "s-bob", 3))
	plants(t, r, session("c:app", "s-app", 1))
	plants(t, r, session("u:cid", "s-cid", 1))
	dead := plants(t, r, session("u:ann", "s-dead", 1))
	held := plants(t, r, api.Node{Kind: api.Access, Parent: dead, Subject: "u:ann", Exp: 400, Secret: "held"})
	plants(t, r, api.Node{Kind: api.Session, Parent: held, Subject: "u:ann", Exp: 400, Secret: "s-below", Level: 1})
	old := session("u:ann", "s-old", 1)
	old.Exp = 10
	plants(t, r, old)
	web, gone := session("u:ann", "s-web", 1), session("u:ann", "s-gone", 1)
	web.Client, gone.Client = "web", "gone"
	plants(t, r, web)
	plants(t, r, gone)
	plants(t, r, session("u:none", "s-none", 1))
	fits(t, r.F.Kill(dead))
	return r
}

// full: as many nodes as there may be, none of which is over for a long time.
func full(t testing.TB, r *oauth.Realm) {
	t.Helper()
	r.F.Prune(11)
	for i := len(r.F.Nodes()); i < api.MaxNodes; i++ {
		plants(t, r, session("u:bob", fmt.Sprint("full ", i), 1))
	}
}

// authorize, byCode, byClient, byRefresh: asks that are OK.
func authorize(session, scope string) api.Ask {
	return api.Ask{Kind: api.AskAuthorize, Session: session, Client: "web", Redirect: webBack, Scope: scope, Challenge: challengeOf(verifier), Nonce: "nonce"}
}

func byCode(code string) api.Ask {
	return api.Ask{Kind: api.AskByCode, Client: "web", Code: code, Redirect: webBack, Verifier: verifier}
}

func byClient(scope string) api.Ask {
	return api.Ask{Kind: api.AskByClient, Client: "app", Secret: "app's", Scope: scope, Audience: "https://api"}
}

func byRefresh(secret, scope string) api.Ask {
	return api.Ask{Kind: api.AskByRefresh, Client: "web", Token: secret, Scope: scope}
}

// revoke, inspect: of web; info.
func revoke(text string) api.Ask  { return api.Ask{Kind: api.AskRevoke, Client: "web", Token: text} }
func inspect(text string) api.Ask { return api.Ask{Kind: api.AskInspect, Client: "web", Token: text} }
func info(text string) api.Ask    { return api.Ask{Kind: api.AskInfo, Token: text} }

// by: an ask of a client, with its secret.
func by(a api.Ask, client string) api.Ask {
	a.Client, a.Secret = client, secretOf(client)
	return a
}

// rest of a tape: what it would answer.
func rest(tape *oauth.Tape) string {
	c, s := *tape, ""
	for range api.MaxDraws + 1 {
		s += fmt.Sprintln(c.Raw())
	}
	return s
}

// othersOf a realm: all of it but its forest.
func othersOf(r *oauth.Realm) string {
	return fmt.Sprintf("%q %q %q %#v", r.P.Rows(), r.L.Rows(), r.R.Seeds(), r.C)
}

// pointers of a realm, none of which a call changes.
func pointers(r *oauth.Realm) [4]any { return [4]any{r.P, r.F, r.L, r.R} }

// agrees: a realm, and a tape, are as the model has them.
func agrees(t testing.TB, what string, r *oauth.Realm, tape *oauth.Tape, m *model) {
	t.Helper()
	same(t, what+": nodes", r.F.Nodes(), m.sorted())
	same(t, what+": next number", r.F.Rows()[0].Value, theRow(fmt.Sprint(m.next)))
	same(t, what+": tape", rest(tape), rest(oauth.NewTape(m.draws)))
}

// twice runs a call on a realm and a tape, which changes but the forest and the tape.
func twice(t testing.TB, what string, r *oauth.Realm, draws []string, call func(tape *oauth.Tape), model func(m *model)) {
	t.Helper()
	m := modelOf(r, draws)
	model(m)
	others, at, tape := othersOf(r), pointers(r), oauth.NewTape(draws)
	call(tape)
	agrees(t, what, r, tape, m)
	same(t, what+": others", othersOf(r), others)
	if pointers(r) != at {
		t.Errorf("%s: another realm", what)
	}
}

// asks: Do, which answers and changes what the model does.
func asks(t testing.TB, r *oauth.Realm, a api.Ask, now int, draws ...string) (got api.Reply) {
	t.Helper()
	what := fmt.Sprintf("Do %.300q at %d with %.100q", fmt.Sprint(a), now, draws)
	var want api.Reply
	twice(t, what, r, draws, func(tape *oauth.Tape) { got = oauth.Do(r, a, now, tape) }, func(m *model) { want = m.do(a, now) })
	same(t, what, got, want)
	return got
}

// done: Do is OK.
func done(t testing.TB, r *oauth.Realm, a api.Ask, now int, draws ...string) api.Reply {
	t.Helper()
	reply := asks(t, r, a, now, draws...)
	if reply.Status != 200 || reply.Code != api.OK {
		t.Fatalf("Do %+v at %d: %d, %d", a, now, reply.Status, reply.Code)
	}
	return reply
}

// refused: Do answers an error, and that alone, and changes nothing.
func refused(t testing.TB, r *oauth.Realm, a api.Ask, now int, want api.Errno, draws ...string) {
	t.Helper()
	before := r.F.Rows()
	reply := asks(t, r, a, now, draws...)
	same(t, fmt.Sprintf("Do %.300q at %d", fmt.Sprint(a), now), reply, api.Reply{Status: statusOf(want), Code: want})
	same(t, "rows behind an error", r.F.Rows(), before)
}

// grants: Grant, which answers and changes what the model does.
func grants(t testing.TB, r *oauth.Realm, n api.Node, now int, draws ...string) (text string, e api.Errno) {
	t.Helper()
	what := fmt.Sprintf("Grant %.300q at %d with %.100q", fmt.Sprint(n), now, draws)
	var want []any
	twice(t, what, r, draws, func(tape *oauth.Tape) { text, e = oauth.Grant(r, n, now, tape) }, func(m *model) {
		text, e := m.grant(n, now)
		want = []any{text, e}
	})
	same(t, what, []any{text, e}, want)
	return text, e
}

// finds: Who, Named, Bearer and Usable answer what the model does.
func finds(t testing.TB, r *oauth.Realm, text string, now int) {
	t.Helper()
	m := modelOf(r, nil)
	is := func(what string, n api.Node, ok bool, want *api.Node, usable bool) {
		t.Helper()
		if want == nil || usable && !m.usable(want, now) {
			want = nil
		}
		told := []any{api.Node{}, false}
		if want != nil {
			told = []any{*want, true}
		}
		same(t, fmt.Sprintf("%s %.300q at %d", what, text, now), []any{n, ok}, told)
		if want != nil && oauth.Usable(r, n, now) != m.usable(want, now) {
			t.Errorf("Usable %+v at %d: %t", n, now, !m.usable(want, now))
		}
	}
	n, ok := oauth.Who(r, text, now)
	is("Who", n, ok, m.find(api.Session, text), true)
	named := m.named(text)
	n, ok = oauth.Named(r, text)
	is("Named", n, ok, named, false)
	if named != nil && named.Kind != api.Access {
		named = nil
	}
	n, ok = oauth.Bearer(r, text, now)
	is("Bearer", n, ok, named, true)
}

// tokenOf a node: its access token.
func tokenOf(t testing.TB, r *oauth.Realm, n api.Node) string {
	t.Helper()
	text, e := token.Access(r.R, modelOf(r, nil).claims(n))
	fits(t, e)
	return text
}

// clientWith puts a client anew.
func clientWith(t testing.TB, r *oauth.Realm, id string, change func(c *api.Client)) {
	t.Helper()
	c, _ := r.P.Client(id)
	c.Id = id
	change(&c)
	fits(t, r.P.PutClient(c))
}

// anyOf: one of these.
func anyOf[T any](r *rand.Rand, l ...T) T { return l[r.Intn(len(l))] }

// long: so many bytes.
func long(n int) string { return strings.Repeat("x", n) }

// words: so many scopes, all unlike.
func words(n int) []string {
	var l []string
	for i := range n {
		l = append(l, fmt.Sprintf("%02d", i)+strings.Repeat(":", 30))
	}
	return l
}

// wrong: texts that are of no use as whatever they stand for.
func wrong() []string {
	return []string{"", " ", "s-ann ", "none", "\x00", "\xff\xfe", "é", long(65), long(1 << 16), "a.b.c", "..", "{}", "u:ann", base(drawn(99))}
}

// within: a list is of another one.
func within(l, of []string) bool {
	return !slices.ContainsFunc(l, func(s string) bool { return !slices.Contains(of, s) })
}
