package oauth_test

import (
	"fmt"
	"math/rand"
	"slices"
	"strings"
	"testing"

	"seneschal/api"
	"seneschal/forest"
	"seneschal/oauth"
	"seneschal/token"
)

func TestExamples(t *testing.T) {
	for _, x := range []struct {
		text string
		want []string
		ok   bool
	}{{"b a", []string{"a", "b"}, true}, {"", nil, true}, {"a  b", nil, false}, {"a a", nil, false}} {
		l, ok := oauth.Scopes(x.text)
		same(t, "Scopes "+x.text, []any{l, ok}, []any{x.want, x.ok})
	}
	for _, draws := range [][]string{{"x"}, {}} {
		draw, e := oauth.NewTape(draws).Raw()
		same(t, "Raw", []any{draw, e}, []any{"", api.ErrDraw})
	}
	r := realm(t)
	same(t, "AskRevoke", asks(t, r, api.Ask{Kind: api.AskRevoke, Client: "none"}, 0), api.Reply{Status: 401, Code: api.ErrOauthClient})
	same(t, "AskLogin", asks(t, r, api.Ask{Kind: api.AskLogin}, 0), api.Reply{Status: 400, Code: api.ErrAuthorityAsk})
}

// The document's sixth and seventh example.
func TestExamplesOfTheWhole(t *testing.T) {
	r := realm(t)
	refused(t, r, by(authorize("s-ann", "read"), "bot"), 5, api.ErrOauthAllowed, drawn(1))
	other := authorize("s-ann", "read")
	other.Redirect = "https://else"
	refused(t, r, other, 5, api.ErrOauthRedirect, drawn(1))
	code := done(t, r, authorize("s-ann", "openid read"), 5, drawn(1)).Grant
	got := done(t, r, byCode(code), 6, drawnAll(2, 2)...)
	if got.Access == "" || got.Refresh == "" || got.Id == "" {
		t.Errorf("%+v", got)
	}
	for _, text := range []string{got.Access, got.Refresh} {
		same(t, "Active", done(t, r, inspect(text), 7).Active, true)
	}
	same(t, "again", asks(t, r, byCode(code), 7, drawnAll(4, 2)...), api.Reply{Status: 400, Code: api.ErrOauthGrant})
	for _, text := range []string{got.Access, got.Refresh} {
		same(t, "Active", done(t, r, inspect(text), 7).Active, false)
	}
}

func TestP171Raw(t *testing.T) {
	for _, l := range [][]string{nil, {}, {drawn(1)}, drawnAll(1, 3), drawnAll(1, 7), drawnAll(1, 8), drawnAll(1, 9), drawnAll(1, 100),
		{"", drawn(1)}, {drawn(1), long(15), drawn(2), long(17), drawn(3)}, {long(1 << 16), strings.Repeat("\x00", 16), strings.Repeat("\xff", 16), drawn(1), drawn(1)}, append(make([]string, 8), drawn(1))} {
		tape, m := oauth.NewTape(l), modelOf(realm(t), l)
		for range 12 {
			draw, e := tape.Raw()
			want, wantE := m.raw()
			same(t, fmt.Sprintf("Raw of %.200q", l), []any{draw, e}, []any{want, wantE})
		}
	}
}

func TestP171Secret(t *testing.T) {
	r := realm(t)
	for i := range 4 {
		n := session("u:ann", base(drawn(i)), 1)
		// Also one that is not live any more.
		n.Kind, n.Exp = 1+i, i*10
		plants(t, r, n)
	}
	for _, l := range [][]string{nil, {drawn(9)}, {drawn(0)}, {drawn(0), drawn(9), drawn(8)}, append(drawnAll(0, 4), drawn(4)), append(drawnAll(0, 4), "x", drawn(4)), {drawn(3), drawn(3), drawn(2), ""}, {long(15), drawn(9)}, {drawn(9), drawn(9)}, {"\xfb\xef\xbe\xff\xff0123456789a"}} {
		tape, m := oauth.NewTape(l), modelOf(r, l)
		for range 5 {
			secret, e := tape.Secret(r.F)
			want, wantE := m.secret()
			same(t, fmt.Sprintf("Secret of %q", l), []any{secret, e}, []any{want, wantE})
		}
		same(t, "what is left", rest(tape), rest(oauth.NewTape(m.draws)))
	}
	// Raw and Secret draw from the same.
	tape := oauth.NewTape(drawnAll(5, 3))
	one, _ := tape.Secret(forest.New())
	two, _ := tape.Raw()
	three, _ := tape.Secret(forest.New())
	same(t, "in turn", []string{one, two, three}, []string{base(drawn(5)), drawn(6), base(drawn(7))})
}

func TestP171Clone(t *testing.T) {
	r := realm(t)
	tells := func(r *oauth.Realm) string { return othersOf(r) + fmt.Sprintf("%q", r.F.Rows()) }
	before := tells(r)
	c := r.Clone()
	same(t, "clone", tells(c), before)
	change := func(r *oauth.Realm) {
		fits(t, r.P.AddUser("dan", "d@x"), r.L.Set("bob", "0123456789abcdef", "pw"), r.R.Turn("newer"), r.F.Kill(1))
		done(t, r, byClient("read"), 5, drawn(1))
		r.C.Issuer = "else"
	}
	change(c)
	same(t, "original behind changes of its clone", tells(r), before)
	other := r.Clone()
	behind := tells(c)
	change(r)
	same(t, "clone behind changes of its original", tells(other), before)
	same(t, "both behind the same changes", tells(r), behind)
	for i, p := range pointers(r) {
		if p == pointers(other)[i] {
			t.Errorf("%T is shared", p)
		}
	}
}

func TestP172Check(t *testing.T) {
	checks := func(c api.Config, want api.Errno) {
		t.Helper()
		same(t, fmt.Sprintf("Check %.300q", fmt.Sprint(c)), oauth.Check(c), want)
		same(t, "model", mayBeConfig(c), want == api.OK)
	}
	checks(config(), api.OK)
	checks(api.Config{}, api.ErrAuthorityConfig)
	texts := []struct {
		at        func(c *api.Config) *string
		fit, more []string
	}{
		{func(c *api.Config) *string { return &c.Issuer }, []string{"i", "!~", long(128), "A"}, []string{"", "a b", "é", "\x7f", long(129), "a\n"}},
		{func(c *api.Config) *string { return &c.Root }, []string{"a", "a.b_c-0", long(24)}, []string{"", "A", "a:b", "a b", long(25), "~"}},
		{func(c *api.Config) *string { return &c.RootSecret }, []string{"\x00", "é", " ", long(64)}, []string{"", long(65), long(1 << 16)}},
		{func(c *api.Config) *string { return &c.Seed }, []string{"\xff", "\n", "A", long(64)}, []string{"", long(65), long(1 << 16)}},
	}
	for _, x := range texts {
		for i, s := range slices.Concat(x.fit, x.more) {
			c := config()
			*x.at(&c) = s
			checks(c, map[bool]api.Errno{false: api.ErrAuthorityConfig}[i < len(x.fit)])
		}
	}
	for _, at := range []func(c *api.Config) *int{
		func(c *api.Config) *int { return &c.SessionTtl }, func(c *api.Config) *int { return &c.CodeTtl }, func(c *api.Config) *int { return &c.AccessTtl },
		func(c *api.Config) *int { return &c.RefreshTtl }, func(c *api.Config) *int { return &c.TicketTtl },
	} {
		for n, want := range map[int]api.Errno{1: 0, 2: 0, 1 << 30: 0, 1<<30 - 1: 0, 0: 211, -1: 211, 1<<30 + 1: 211, 1 << 40: 211, 1<<63 - 1: 211, -1 << 63: 211} {
			c := config()
			*at(&c) = n
			checks(c, want)
		}
	}
}

func TestP172Status(t *testing.T) {
	for e := api.Errno(-5); e < 300; e++ {
		same(t, fmt.Sprint("Status ", e), oauth.Status(e), statusOf(e))
	}
	for _, e := range []api.Errno{1 << 40, -1 << 63, 1<<63 - 1, 1<<32 + 170} {
		same(t, fmt.Sprint("Status ", e), oauth.Status(e), 400)
	}
}

func TestP172Scopes(t *testing.T) {
	for _, text := range []string{
		"a", "b a", "a b", "c b a d", "a:b", "-._:09az", "", " ", "a ", " a", "a  b", "a b ", "a\tb", "a\nb", "A", "a,b", "a é", "\x00", "a a", "b a b", "a ab abc", "ab a",
		strings.Join(words(16), " "), strings.Join(words(17), " "), strings.Join(words(16), " ") + " ", strings.Join(append(words(15), words(1)...), " "),
		strings.Join(append(words(16), words(1)...), " "), long(32), long(33), long(32) + " " + long(33), long(31) + " " + long(32), long(1 << 20), strings.Repeat("a ", 1<<19), strings.Repeat(" ", 1<<20),
	} {
		l, ok := oauth.Scopes(text)
		want, wantOk := scopesOf(text)
		same(t, fmt.Sprintf("Scopes %.60q", text), []any{l, ok}, []any{want, wantOk})
	}
	chance := rand.New(rand.NewSource(1))
	for range 20000 {
		var b strings.Builder
		for range chance.Intn(40) {
			b.WriteString(anyOf(chance, "a", "b", "c", "dd", " ", " ", ":", "_", anyOf(chance, "A", "\x00", "  ", "é", "-", "z")))
		}
		l, ok := oauth.Scopes(b.String())
		want, wantOk := scopesOf(b.String())
		same(t, fmt.Sprintf("Scopes %.60q", b.String()), []any{l, ok}, []any{want, wantOk})
	}
}

func TestP173Auth(t *testing.T) {
	r := realm(t)
	for _, x := range []struct {
		id, secret string
		ok         bool
	}{
		{"web", "", true}, {"app", "app's", true}, {"bot", "bot's", true}, {"idle", "", true}, {"spa", "", true},
		{"web", "x", false}, {"web", hexSum(""), false}, {"app", "", false}, {"app", "bot's", false}, {"app", "app's ", false}, {"app", "app'S", false}, {"app", hexSum("app's"), false}, {"app", sumOf("app's"), false},
		{"idle", "x", false}, {"none", "", false}, {"", "", false}, {"c:app", "app's", false}, {"ann", "", false}, {"App", "app's", false}, {"app", long(1 << 16), false},
	} {
		c, e := oauth.Auth(r, x.id, x.secret)
		want, wantE := api.Client{}, api.ErrOauthClient
		if x.ok {
			want, _ = r.P.Client(x.id)
			wantE = api.OK
		}
		same(t, fmt.Sprintf("Auth %q %.30q", x.id, x.secret), []any{c, e}, []any{want, wantE})
		_, ok := modelOf(r, nil).auth(x.id, x.secret)
		same(t, "model", ok, x.ok)
	}
}

// usable: those of the realm's sessions that are, at a time.
func usable(t *testing.T, r *oauth.Realm, now int) []string {
	t.Helper()
	var l []string
	for _, n := range r.F.Nodes() {
		finds(t, r, n.Secret, now)
		_, ok := oauth.Who(r, n.Secret, now)
		if ok != (n.Kind == api.Session && oauth.Usable(r, n, now)) {
			t.Errorf("Who and Usable of %+v: %t", n, ok)
		}
		if ok {
			l = append(l, n.Secret)
		}
	}
	return l
}

func TestP173Sessions(t *testing.T) {
	r := realm(t)
	same(t, "usable", usable(t, r, 5), []string{"s-ann", "s-ann2", "s-bob", "s-app", "s-old", "s-web"})
	same(t, "usable", usable(t, r, 9), []string{"s-ann", "s-ann2", "s-bob", "s-app", "s-old", "s-web"})
	same(t, "usable later", usable(t, r, 10), []string{"s-ann", "s-ann2", "s-bob", "s-app", "s-web"})
	same(t, "usable long before", usable(t, r, -1<<63), []string{"s-ann", "s-ann2", "s-bob", "s-app", "s-old", "s-web"})
	same(t, "usable in the end", usable(t, r, 1<<63-1), []string(nil))
	fits(t, r.P.SetActive("cid", true), r.P.SetActive("ann", false))
	same(t, "usable with others active", usable(t, r, 10), []string{"s-bob", "s-app", "s-cid"})
	fits(t, r.P.SetActive("ann", true), r.P.DropClient("web"), r.P.DropClient("app"), r.P.DropUser("bob"))
	same(t, "usable with some gone", usable(t, r, 10), []string{"s-ann", "s-ann2", "s-cid"})
	clientWith(t, r, "gone", func(*api.Client) {})
	same(t, "usable with one that comes", usable(t, r, 10), []string{"s-ann", "s-ann2", "s-cid", "s-gone"})
	fits(t, r.F.Spend(1, 5))
	same(t, "usable with one spent", usable(t, r, 10), []string{"s-ann2", "s-cid", "s-gone"})
	for _, text := range wrong() {
		finds(t, r, text, 5)
	}
	if oauth.Usable(r, api.Node{}, 5) || oauth.Usable(r, api.Node{Id: 99, Subject: "u:ann", Exp: 100}, 5) || oauth.Usable(r, api.Node{Id: -1, Subject: "u:ann", Exp: 100}, 5) {
		t.Error("a node that is not there is usable")
	}
}

// What a caller has written into a node does not count: it is asked as it stands in the forest.
func TestP173UsableAsItStands(t *testing.T) {
	r := realm(t)
	n, _ := r.F.Find("s-cid")
	n.Subject, n.Exp = "u:ann", 1000
	same(t, "cid's", oauth.Usable(r, n, 5), false)
	n, _ = r.F.Find("s-ann")
	n.Exp, n.Dead, n.Spent = 0, true, true
	same(t, "ann's", oauth.Usable(r, n, 5), true)
}

// tokens: of each kind of node one, all of web, on ann's session; a table by what they are.
func tokens(t *testing.T, r *oauth.Realm) map[string]string {
	t.Helper()
	code := done(t, r, authorize("s-ann", "openid read"), 5, drawn(1)).Grant
	got := done(t, r, byCode(code), 5, drawnAll(2, 2)...)
	ticket := session("u:ann", base(drawn(4)), 1)
	ticket.Kind = api.Ticket
	plants(t, r, ticket)
	return map[string]string{"session": "s-ann", "code": code, "access": got.Access, "refresh": got.Refresh, "id": got.Id, "ticket": ticket.Secret, "jti": base(drawn(2))}
}

func TestP173Tokens(t *testing.T) {
	r := realm(t)
	texts := tokens(t, r)
	for what, text := range texts {
		_, named := oauth.Named(r, text)
		_, bears := oauth.Bearer(r, text, 5)
		same(t, what, []bool{named, bears}, []bool{what == "access" || what == "refresh", what == "access"})
		for _, now := range []int{5, 54, 55, 204, 205, -1, 1 << 50} {
			finds(t, r, text, now)
		}
		for _, text := range []string{text + " ", text + ".", text[:len(text)-1], "x" + text} {
			finds(t, r, text, 5)
			if _, ok := oauth.Named(r, text); ok {
				t.Errorf("%s: Named %q", what, text)
			}
		}
	}
	for _, text := range wrong() {
		finds(t, r, text, 5)
	}
	n, _ := oauth.Named(r, texts["access"])
	same(t, "the access token's", []any{n.Kind, n.Secret}, []any{api.Access, base(drawn(2))})
	n, _ = oauth.Named(r, texts["refresh"])
	same(t, "the refresh token's", []any{n.Kind, n.Secret}, []any{api.Refresh, base(drawn(3))})
	fits(t, r.R.Turn("newer"), r.P.SetActive("ann", false))
	for _, text := range texts {
		finds(t, r, text, 5)
	}
}

// An access token names its node by its Jti alone, if the ring vouches for it.
func TestP173TokensByTheirJti(t *testing.T) {
	r := realm(t)
	texts := tokens(t, r)
	for what, text := range texts {
		for _, c := range []api.Claims{{Jti: text}, {Jti: text, Sub: "u:bob", Exp: 1, Scope: []string{"other"}}} {
			made, e := token.Access(r.R, c)
			if len(text) > api.MaxText {
				continue
			}
			fits(t, e)
			finds(t, r, made, 5)
			_, ok := oauth.Named(r, made)
			same(t, what, ok, what == "jti")
			_, ok = oauth.Bearer(r, made, 5)
			same(t, what, ok, what == "jti")
			id, e := token.Id(r.R, c)
			fits(t, e)
			finds(t, r, id, 5)
			other, e := token.Access(realmWith(t, "other seed").R, c)
			fits(t, e)
			finds(t, r, other, 5)
			if _, ok := oauth.Named(r, other); ok {
				t.Errorf("%s: Named by another ring's", what)
			}
		}
	}
	// A refresh token's secret is text like any other, but for that of a token.
	plants(t, r, api.Node{Kind: api.Refresh, Subject: "u:ann", Exp: 100, Secret: "a.b.c"})
	plants(t, r, api.Node{Kind: api.Refresh, Subject: "u:ann", Exp: 100, Secret: "\xff\x00"})
	for _, text := range []string{"a.b.c", "\xff\x00"} {
		finds(t, r, text, 5)
		if n, ok := oauth.Named(r, text); !ok || n.Secret != text {
			t.Errorf("Named %q: %+v", text, n)
		}
	}
}

// realmWith another seed.
func realmWith(t testing.TB, seed string) *oauth.Realm {
	t.Helper()
	r := realm(t)
	fits(t, r.R.Turn(seed))
	return r
}
