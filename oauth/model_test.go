package oauth_test

import (
	"cmp"
	"crypto/sha256"
	"encoding/base64"
	"encoding/hex"
	"fmt"
	"maps"
	"regexp"
	"slices"
	"strings"
	"testing"

	"seneschal/api"
	"seneschal/oauth"
	"seneschal/people"
	"seneschal/sign"
	"seneschal/token"
)

var (
	nameForm      = regexp.MustCompile(`\A[a-z0-9._-]{1,24}\z`)
	textForm      = regexp.MustCompile(`\A[!-~]{1,128}\z`)
	scopesForm    = regexp.MustCompile(`\A([a-z0-9._:-]{1,32}( [a-z0-9._:-]{1,32})*)?\z`)
	scopeForm     = regexp.MustCompile(`\A[a-z0-9._:-]{1,32}\z`)
	principalForm = regexp.MustCompile(`\A[uc]:[a-z0-9._-]{1,24}\z`)
	challengeForm = regexp.MustCompile(`\A[A-Za-z0-9_-]{42}[AEIMQUYcgkosw048]\z`)
	rowForm       = regexp.MustCompile(`\A(?:0|[1-9][0-9]*):`)
)

func base(s string) string { return base64.RawURLEncoding.EncodeToString([]byte(s)) }

func sumOf(s string) string {
	sum := sha256.Sum256([]byte(s))
	return string(sum[:])
}

func hexSum(s string) string { return hex.EncodeToString([]byte(sumOf(s))) }

// challengeOf a verifier.
func challengeOf(verifier string) string { return base(sumOf(verifier)) }

// drawn: a draw that counts, and drawnAll some, all unlike.
func drawn(n int) string { return fmt.Sprintf("draw %011d", n) }

func drawnAll(from, count int) []string {
	var l []string
	for i := range count {
		l = append(l, drawn(from+i))
	}
	return l
}

// statusOf an error, as the chapter says it.
func statusOf(e api.Errno) int {
	for status, errors := range map[int][]api.Errno{
		200: {api.OK},
		401: {170, 176, 150, 151, 153, 154, 161, 162, 163},
		403: {177, 180, 201},
		404: {122},
		409: {121},
		412: {200},
		429: {152},
		503: {3, 2},
		507: {130, 124, 156, 112, 113},
	} {
		if slices.Contains(errors, e) {
			return status
		}
	}
	return 400
}

// scopesOf a text of scopes, as the chapter says it.
func scopesOf(text string) ([]string, bool) {
	if !scopesForm.MatchString(text) {
		return nil, false
	}
	l := strings.Fields(text)
	unlike := map[string]bool{}
	for _, s := range l {
		unlike[s] = true
	}
	if len(l) > 16 || len(unlike) < len(l) {
		return nil, false
	}
	return slices.Sorted(maps.Keys(unlike)), true
}

// textsOf a row: none, if it is not one.
func textsOf(row string) (l []string) {
	for row != "" {
		head := rowForm.FindString(row)
		n := 0
		if _, err := fmt.Sscanf(head, "%d:", &n); err != nil || n > len(row)-len(head) {
			return nil
		}
		l = append(l, row[len(head):len(head)+n])
		row = row[len(head)+n:]
	}
	return l
}

// theRow of texts.
func theRow(texts ...string) string {
	s := ""
	for _, t := range texts {
		s += fmt.Sprintf("%d:%s", len(t), t)
	}
	return s
}

// mayBeConfig: as the chapter says it.
func mayBeConfig(c api.Config) bool {
	ok := textForm.MatchString(c.Issuer) && nameForm.MatchString(c.Root)
	for _, s := range []string{c.RootSecret, c.Seed} {
		ok = ok && len(s) > 0 && len(s) < 65
	}
	for _, n := range []int{c.SessionTtl, c.CodeTtl, c.AccessTtl, c.RefreshTtl, c.TicketTtl} {
		ok = ok && n > 0 && n < 1<<30+1
	}
	return ok
}

// model: what a realm is after the chapter's words, its grants in a list of any order.
type model struct {
	p     *people.People
	ring  *sign.Ring
	c     api.Config
	nodes []api.Node
	next  int
	draws []string
	again int // the node that was met for the second time
}

// modelOf a realm, and what is drawn.
func modelOf(r *oauth.Realm, draws []string) *model {
	m := &model{p: r.P, ring: r.R, c: r.C, nodes: r.F.Nodes(), draws: slices.Clone(draws)}
	if len(m.draws) > 8 {
		m.draws = m.draws[:8]
	}
	fmt.Sscanf(textsOf(r.F.Rows()[0].Value)[0], "%d", &m.next)
	// The newest first, so that nothing is told as it lies.
	slices.Reverse(m.nodes)
	return m
}

func (m *model) clone() *model {
	c := *m
	c.nodes, c.draws = slices.Clone(m.nodes), slices.Clone(m.draws)
	return &c
}

// sorted: its nodes, by their numbers.
func (m *model) sorted() []api.Node {
	return slices.SortedFunc(slices.Values(m.nodes), func(a, b api.Node) int { return cmp.Compare(a.Id, b.Id) })
}

func (m *model) at(id int) *api.Node {
	i := slices.IndexFunc(m.nodes, func(n api.Node) bool { return n.Id == id })
	if i < 0 {
		return nil
	}
	return &m.nodes[i]
}

// by a secret; of a kind.
func (m *model) by(secret string) *api.Node {
	i := slices.IndexFunc(m.nodes, func(n api.Node) bool { return n.Secret == secret })
	if i < 0 {
		return nil
	}
	return &m.nodes[i]
}

func (m *model) find(kind int, secret string) *api.Node {
	if n := m.by(secret); n != nil && n.Kind == kind {
		return n
	}
	return nil
}

func (m *model) dead(id int) bool {
	n := m.at(id)
	return n != nil && (n.Dead || m.dead(n.Parent))
}

func (m *model) live(id, now int) bool {
	n := m.at(id)
	return n != nil && !n.Spent && n.Exp > now && !m.dead(id)
}

// prune: what is live stays, and all of its paths.
func (m *model) prune(now int) {
	stays := map[int]bool{}
	for _, n := range m.nodes {
		for x := m.at(n.Id); x != nil && m.live(n.Id, now); x = m.at(x.Parent) {
			stays[x.Id] = true
		}
	}
	m.nodes = slices.DeleteFunc(m.nodes, func(n api.Node) bool { return !stays[n.Id] })
}

// plant: as chapter 13 says it.
func (m *model) plant(n api.Node, now int) (int, api.Errno) {
	ok := n.Kind >= 1 && n.Kind <= 5 && n.Parent >= 0 && n.Level >= 0 && n.Level <= 3 && principalForm.MatchString(n.Subject)
	ok = ok && (n.Client == "" || nameForm.MatchString(n.Client)) && (n.Audience == "" || textForm.MatchString(n.Audience))
	ok = ok && n.Born >= 0 && n.Born <= 1<<40 && n.Exp >= 0 && n.Exp <= 1<<40 && len(n.Scope) <= 16 && len(n.Actors) <= 4 && len(n.Data) <= 256
	for i, s := range n.Scope {
		ok = ok && scopeForm.MatchString(s) && (i == 0 || n.Scope[i-1] < s)
	}
	for _, s := range n.Actors {
		ok = ok && principalForm.MatchString(s)
	}
	switch {
	case !ok:
		return 0, api.ErrForestNode
	case m.by(n.Secret) != nil:
		return 0, api.ErrForestSecret
	case n.Parent > 0 && (m.at(n.Parent) == nil || m.dead(n.Parent)):
		return 0, api.ErrForestDead
	}
	m.prune(now)
	if len(m.nodes) == 256 || m.next == 99999999 {
		return 0, api.ErrForestFull
	}
	n.Id, n.Dead, n.Spent = m.next, false, false
	m.next++
	m.nodes = slices.Insert(m.nodes, 0, n)
	return n.Id, api.OK
}

// raw, secret: what is drawn.
func (m *model) raw() (string, api.Errno) {
	if len(m.draws) == 0 {
		return "", api.ErrDraw
	}
	d := m.draws[0]
	m.draws = m.draws[1:]
	if len(d) != 16 {
		return "", api.ErrDraw
	}
	return d, api.OK
}

func (m *model) secret() (string, api.Errno) {
	d, e := m.raw()
	if e == api.OK && m.by(base(d)) != nil {
		return m.secret()
	}
	if e != api.OK {
		return "", e
	}
	return base(d), e
}

func (m *model) usable(n *api.Node, now int) bool {
	if n == nil || !m.live(n.Id, now) || !m.p.Active(n.Subject) {
		return false
	}
	_, there := m.p.Client(n.Client)
	return n.Client == "" || there
}

func (m *model) named(text string) *api.Node {
	if c, e := token.Read(m.ring, text); e == api.OK {
		return m.find(api.Access, c.Jti)
	}
	return m.find(api.Refresh, text)
}

// auth: the client, if that is its secret.
func (m *model) auth(id, secret string) (api.Client, bool) {
	c, ok := m.p.Client(id)
	if ok && c.Secret == "" && secret == "" || ok && c.Secret != "" && c.Secret == hexSum(secret) {
		return c, true
	}
	return api.Client{}, false
}

// may: has a principal that scope?
func (m *model) may(principal, scope string) bool {
	if name, ok := strings.CutPrefix(principal, "u:"); ok {
		return scope == "openid" || slices.Contains(m.p.Holds(name), scope)
	}
	c, _ := m.p.Client(principal[2:])
	return slices.Contains(c.Scopes, scope)
}

// of a list, those for which it holds.
func of(l []string, holds func(string) bool) []string {
	var r []string
	for _, s := range l {
		if holds(s) {
			r = append(r, s)
		}
	}
	return r
}

func till(now, ttl int) int { return min(now+ttl, 1<<40) }

func (m *model) claims(n api.Node) api.Claims {
	return api.Claims{Iss: m.c.Issuer, Sub: n.Subject, Aud: n.Audience, Client: n.Client, Jti: n.Secret, Iat: n.Born, Exp: n.Exp, Scope: n.Scope, Act: n.Actors, Level: n.Level}
}

func (m *model) idClaims(n api.Node, nonce string) api.Claims {
	return api.Claims{Iss: m.c.Issuer, Sub: n.Subject, Aud: n.Client, Client: n.Client, Jti: n.Secret, Iat: n.Born, Exp: n.Exp, Level: n.Level, Nonce: nonce}
}

// lay a node with a secret that is drawn.
func (m *model) lay(n api.Node, now int) (api.Node, api.Errno) {
	s, e := m.secret()
	if e != api.OK {
		return n, e
	}
	n.Secret, n.Born = s, now
	id, e := m.plant(n, now)
	n.Id = id
	return n, e
}

// access: a node of an access token, and its token.
func (m *model) access(n api.Node, now int) (api.Node, string, api.Errno) {
	n.Kind = api.Access
	n, e := m.lay(n, now)
	if e != api.OK {
		return n, "", e
	}
	text, e := token.Access(m.ring, m.claims(n))
	return n, text, e
}

// grant: as P17.4 says it.
func (m *model) grant(n api.Node, now int) (string, api.Errno) {
	before := m.clone()
	_, text, e := m.access(n, now)
	if e != api.OK {
		*m = *before
		return "", e
	}
	return text, e
}

// do: as P17.5 says it.
func (m *model) do(a api.Ask, now int) api.Reply {
	before := m.clone()
	reply, e := m.answer(a, now)
	if e != api.OK {
		again := m.again
		*m = *before
		if again > 0 {
			m.at(again).Dead = true
		}
		return api.Reply{Status: statusOf(e), Code: e}
	}
	reply.Status = 200
	return reply
}

func (m *model) answer(a api.Ask, now int) (api.Reply, api.Errno) {
	switch {
	case !mayBeConfig(m.c):
		return api.Reply{}, api.ErrAuthorityConfig
	case now < 0 || now > 1<<40:
		return api.Reply{}, api.ErrArg
	}
	switch a.Kind {
	case api.AskAuthorize:
		return m.authorize(a, now)
	case api.AskInfo:
		n := m.named(a.Token)
		if n == nil || n.Kind != api.Access || !m.usable(n, now) || !slices.Contains(n.Scope, "openid") {
			return api.Reply{}, api.ErrOauthToken
		}
		return api.Reply{Text: n.Subject, Scope: n.Scope}, api.OK
	case api.AskByCode, api.AskByClient, api.AskByRefresh, api.AskRevoke, api.AskInspect:
	default:
		return api.Reply{}, api.ErrAuthorityAsk
	}
	c, ok := m.auth(a.Client, a.Secret)
	if !ok {
		return api.Reply{}, api.ErrOauthClient
	}
	switch a.Kind {
	case api.AskByCode:
		return m.byCode(a, c, now)
	case api.AskByClient:
		return m.byClient(a, c, now)
	case api.AskByRefresh:
		return m.byRefresh(a, c, now)
	case api.AskRevoke:
		if n := m.named(a.Token); n != nil && n.Client == c.Id {
			n.Dead = true
		}
	case api.AskInspect:
		if n := m.named(a.Token); m.usable(n, now) {
			return api.Reply{Active: true, Claims: m.claims(*n)}, api.OK
		}
	}
	return api.Reply{}, api.OK
}

func (m *model) authorize(a api.Ask, now int) (api.Reply, api.Errno) {
	s := m.find(api.Session, a.Session)
	c, there := m.p.Client(a.Client)
	l, ok := scopesOf(a.Scope)
	both := of(l, func(x string) bool { return s != nil && slices.Contains(c.Scopes, x) && m.may(s.Subject, x) })
	switch {
	case !m.usable(s, now):
		return api.Reply{}, api.ErrOauthToken
	case !there:
		return api.Reply{}, api.ErrOauthClient
	case !c.Code:
		return api.Reply{}, api.ErrOauthAllowed
	case !slices.Contains(c.Redirects, a.Redirect):
		return api.Reply{}, api.ErrOauthRedirect
	case !challengeForm.MatchString(a.Challenge), a.Nonce != "" && !textForm.MatchString(a.Nonce):
		return api.Reply{}, api.ErrOauthRequest
	case !ok, len(both) == 0:
		return api.Reply{}, api.ErrOauthScope
	case slices.Contains(both, "admin") && s.Level < 2:
		return api.Reply{}, api.ErrOauthLevel
	}
	n, e := m.lay(api.Node{Kind: api.Code, Parent: s.Id, Subject: s.Subject, Level: s.Level, Client: a.Client, Scope: both, Exp: till(now, m.c.CodeTtl), Data: theRow(a.Redirect, a.Challenge, a.Nonce)}, now)
	return api.Reply{Grant: n.Secret, Scope: both}, e
}

func (m *model) byCode(a api.Ask, c api.Client, now int) (api.Reply, api.Errno) {
	code := m.find(api.Code, a.Code)
	if !c.Code {
		return api.Reply{}, api.ErrOauthAllowed
	}
	if code == nil || code.Client != a.Client {
		return api.Reply{}, api.ErrOauthGrant
	}
	n, data := *code, textsOf(code.Data)
	switch {
	case len(data) != 3, data[0] != a.Redirect, data[1] != challengeOf(a.Verifier):
		return api.Reply{}, api.ErrOauthGrant
	case code.Spent:
		m.again = code.Id
		return api.Reply{}, api.ErrOauthGrant
	case !m.usable(code, now):
		return api.Reply{}, api.ErrOauthGrant
	}
	hangs := api.Node{Parent: n.Id, Subject: n.Subject, Client: n.Client, Scope: n.Scope, Level: n.Level}
	reply := api.Reply{Scope: n.Scope, Expires: m.c.AccessTtl}
	hangs.Exp = till(now, m.c.AccessTtl)
	access, text, e := m.access(hangs, now)
	reply.Access = text
	if e == api.OK && c.Refresh {
		hangs.Kind, hangs.Exp = api.Refresh, till(now, m.c.RefreshTtl)
		hangs, e = m.lay(hangs, now)
		reply.Refresh = hangs.Secret
	}
	if e == api.OK && slices.Contains(n.Scope, "openid") {
		reply.Id, e = token.Id(m.ring, m.idClaims(access, data[2]))
	}
	if e == api.OK {
		m.at(n.Id).Spent = true
	}
	return reply, e
}

func (m *model) byClient(a api.Ask, c api.Client, now int) (api.Reply, api.Errno) {
	l, ok := scopesOf(a.Scope)
	l = of(l, func(x string) bool { return slices.Contains(c.Scopes, x) })
	switch {
	case !c.Own:
		return api.Reply{}, api.ErrOauthAllowed
	case !ok, len(l) == 0:
		return api.Reply{}, api.ErrOauthScope
	case a.Audience != "" && !textForm.MatchString(a.Audience):
		return api.Reply{}, api.ErrOauthRequest
	}
	_, text, e := m.access(api.Node{Subject: "c:" + a.Client, Client: a.Client, Audience: a.Audience, Scope: l, Exp: till(now, m.c.AccessTtl)}, now)
	return api.Reply{Access: text, Scope: l, Expires: m.c.AccessTtl}, e
}

func (m *model) byRefresh(a api.Ask, c api.Client, now int) (api.Reply, api.Errno) {
	old := m.find(api.Refresh, a.Token)
	switch {
	case !c.Refresh:
		return api.Reply{}, api.ErrOauthAllowed
	case old == nil, old.Client != a.Client:
		return api.Reply{}, api.ErrOauthGrant
	case old.Spent:
		m.again = old.Id
		return api.Reply{}, api.ErrOauthGrant
	case !m.usable(old, now):
		return api.Reply{}, api.ErrOauthGrant
	}
	n := *old
	l, ok := scopesOf(a.Scope)
	more := of(l, func(x string) bool { return !slices.Contains(n.Scope, x) })
	if a.Scope == "" {
		l = n.Scope
	}
	l = of(l, func(x string) bool { return m.may(n.Subject, x) })
	if !ok || len(more) > 0 || len(l) == 0 {
		return api.Reply{}, api.ErrOauthScope
	}
	_, text, e := m.access(api.Node{Parent: n.Id, Subject: n.Subject, Client: n.Client, Scope: l, Level: n.Level, Exp: till(now, m.c.AccessTtl)}, now)
	if e != api.OK {
		return api.Reply{}, e
	}
	fresh, e := m.lay(api.Node{Kind: api.Refresh, Parent: n.Id, Subject: n.Subject, Client: n.Client, Scope: n.Scope, Level: n.Level, Exp: till(now, m.c.RefreshTtl)}, now)
	if e == api.OK {
		m.at(n.Id).Spent = true
	}
	return api.Reply{Access: text, Refresh: fresh.Secret, Scope: l, Expires: m.c.AccessTtl}, e
}

// emptyList: one that is told as such, where nil is told otherwise.
var emptyList = regexp.MustCompile(`(\[\][a-zA-Z.]+)\{\}`)

// told: an answer as a text; a list without anything is no other one than nil.
func told(x any) string { return emptyList.ReplaceAllString(fmt.Sprintf("%#v", x), "$1(nil)") }

// same: two answers.
func same(t testing.TB, what string, got, want any) {
	t.Helper()
	if a, b := told(got), told(want); a != b {
		t.Errorf("%.700s: %.900s; want %.900s", what, a, b)
	}
}
