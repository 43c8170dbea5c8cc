package people_test

import (
	"cmp"
	"fmt"
	"math/rand"
	"regexp"
	"slices"
	"strings"
	"testing"

	"seneschal/api"
	"seneschal/people"
)

// changer is people, or what they are after the chapter's words.
type changer interface {
	AddUser(name, mail string) api.Errno
	SetMail(name, mail string) api.Errno
	SetActive(name string, on bool) api.Errno
	DropUser(name string) api.Errno
	AddGroup(name string) api.Errno
	DropGroup(name string) api.Errno
	Join(group, user string) api.Errno
	Leave(group, user string) api.Errno
	Nest(group, sub string) api.Errno
	Unnest(group, sub string) api.Errno
	Give(group, role string) api.Errno
	Take(group, role string) api.Errno
	PutRole(r api.Role) api.Errno
	DropRole(name string) api.Errno
	PutClient(c api.Client) api.Errno
	DropClient(id string) api.Errno
	Allow(actor, subject string) api.Errno
	Deny(actor, subject string) api.Errno
}

// call of a changer: its name, and what is handed in.
type call struct {
	what   string
	a, b   string
	yes    bool
	role   api.Role
	client api.Client
}

// anyCalls: the names of all calls.
func anyCalls() []string {
	return []string{"AddUser", "SetMail", "SetActive", "DropUser", "AddGroup", "DropGroup", "Join", "Leave", "Nest", "Unnest", "Give", "Take", "PutRole", "DropRole", "PutClient", "DropClient", "Allow", "Deny"}
}

// grows, shrinks: do calls of that name never take anything from what a user holds, never give it anything?
func grows(what string) bool { return slices.Contains([]string{"Join", "Nest", "Give"}, what) }

func shrinks(what string) bool {
	return slices.Contains([]string{"Leave", "Unnest", "Take", "DropGroup", "DropRole"}, what)
}

func (c call) on(x changer) api.Errno {
	switch c.what {
	case "SetActive":
		return x.SetActive(c.a, c.yes)
	case "DropUser":
		return x.DropUser(c.a)
	case "AddGroup":
		return x.AddGroup(c.a)
	case "DropGroup":
		return x.DropGroup(c.a)
	case "DropRole":
		return x.DropRole(c.a)
	case "DropClient":
		return x.DropClient(c.a)
	case "PutRole":
		return x.PutRole(c.role)
	case "PutClient":
		return x.PutClient(c.client)
	}
	return map[string]func(a, b string) api.Errno{
		"AddUser": x.AddUser, "SetMail": x.SetMail,
		"Join": x.Join, "Leave": x.Leave, "Nest": x.Nest, "Unnest": x.Unnest, "Give": x.Give, "Take": x.Take,
		"Allow": x.Allow, "Deny": x.Deny,
	}[c.what](c.a, c.b)
}

// model: people after the chapter's words, in lists of any order.
type model struct {
	users   []api.User
	groups  []api.Group
	roles   []api.Role
	clients []api.Client
	mays    []api.May
}

func (m *model) clone() *model {
	c := *m
	c.users, c.roles, c.clients, c.mays = slices.Clone(m.users), slices.Clone(m.roles), slices.Clone(m.clients), slices.Clone(m.mays)
	c.groups = nil
	for _, g := range m.groups {
		g.Users, g.Subs, g.Roles = slices.Clone(g.Users), slices.Clone(g.Subs), slices.Clone(g.Roles)
		c.groups = append(c.groups, g)
	}
	return &c
}

var (
	nameForm      = regexp.MustCompile(`\A[a-z0-9._-]{1,24}\z`)
	textForm      = regexp.MustCompile(`\A[!-~]{1,128}\z`)
	scopeForm     = regexp.MustCompile(`\A[a-z0-9._:-]{1,32}\z`)
	principalForm = regexp.MustCompile(`\A[uc]:[a-z0-9._-]{1,24}\z`)
	secretForm    = regexp.MustCompile(`\A([0-9a-f]{64})?\z`)
)

func isName(s string) bool { return nameForm.MatchString(s) }

// theyRise: 16 texts at most, each of that form, each above the one ahead of it.
func theyRise(l []string, form *regexp.Regexp) bool {
	ok := len(l) <= 16
	for i, s := range l {
		ok = ok && form.MatchString(s) && (i == 0 || l[i-1] < s)
	}
	return ok
}

func (m *model) user(name string) int {
	return slices.IndexFunc(m.users, func(u api.User) bool { return u.Name == name })
}

func (m *model) group(name string) int {
	return slices.IndexFunc(m.groups, func(g api.Group) bool { return g.Name == name })
}

func (m *model) role(name string) int {
	return slices.IndexFunc(m.roles, func(r api.Role) bool { return r.Name == name })
}

func (m *model) client(id string) int {
	return slices.IndexFunc(m.clients, func(c api.Client) bool { return c.Id == id })
}

func (m *model) principal(s string) int {
	if name, ok := strings.CutPrefix(s, "u:"); ok {
		return m.user(name)
	}
	return m.client(s[2:])
}

func (m *model) AddUser(name, mail string) api.Errno {
	switch {
	case !isName(name) || !textForm.MatchString(mail):
		return api.ErrPeopleName
	case m.user(name) >= 0:
		return api.ErrPeopleThere
	case len(m.users) == 64:
		return api.ErrPeopleFull
	}
	m.users = append(m.users, api.User{Name: name, Mail: mail, Active: true, Version: 1})
	return api.OK
}

// turn: a user becomes another one.
func (m *model) turn(name string, may bool, f func(*api.User)) api.Errno {
	i := m.user(name)
	switch {
	case !isName(name) || !may:
		return api.ErrPeopleName
	case i < 0:
		return api.ErrPeopleNone
	}
	old := m.users[i]
	f(&m.users[i])
	if m.users[i] != old {
		m.users[i].Version++
	}
	return api.OK
}

func (m *model) SetMail(name, mail string) api.Errno {
	return m.turn(name, textForm.MatchString(mail), func(u *api.User) { u.Mail = mail })
}

func (m *model) SetActive(name string, on bool) api.Errno {
	return m.turn(name, true, func(u *api.User) { u.Active = on })
}

// drop: what is at i is taken away by f, if its name may be one.
func drop(name string, i int, f func()) api.Errno {
	switch {
	case !isName(name):
		return api.ErrPeopleName
	case i < 0:
		return api.ErrPeopleNone
	}
	f()
	return api.OK
}

// without: a group's list without a name, the group's version one more if it was there.
func without(g *api.Group, l *[]string, name string) bool {
	i := slices.Index(*l, name)
	if i >= 0 {
		*l = slices.Delete(*l, i, i+1)
		g.Version++
	}
	return i >= 0
}

func (m *model) deny(principal string) {
	m.mays = slices.DeleteFunc(slices.Clone(m.mays), func(x api.May) bool { return x.Actor == principal || x.Subject == principal })
}

func (m *model) DropUser(name string) api.Errno {
	i := m.user(name)
	return drop(name, i, func() {
		m.users = slices.Delete(m.users, i, i+1)
		for k := range m.groups {
			without(&m.groups[k], &m.groups[k].Users, name)
		}
		m.deny("u:" + name)
	})
}

func (m *model) AddGroup(name string) api.Errno {
	switch {
	case !isName(name):
		return api.ErrPeopleName
	case m.group(name) >= 0:
		return api.ErrPeopleThere
	case len(m.groups) == 32:
		return api.ErrPeopleFull
	}
	m.groups = append(m.groups, api.Group{Name: name, Version: 1})
	return api.OK
}

func (m *model) DropGroup(name string) api.Errno {
	i := m.group(name)
	return drop(name, i, func() {
		m.groups = slices.Delete(m.groups, i, i+1)
		for k := range m.groups {
			without(&m.groups[k], &m.groups[k].Subs, name)
		}
	})
}

// both: a name is put into a list of a group (more), or taken out of it.
func (m *model) both(group, name string, at int, of func(*api.Group) *[]string, more bool) api.Errno {
	i := m.group(group)
	switch {
	case !isName(group) || !isName(name):
		return api.ErrPeopleName
	case i < 0 || at < 0:
		return api.ErrPeopleNone
	}
	g := &m.groups[i]
	l := of(g)
	switch there := slices.Contains(*l, name); {
	case there && more:
		return api.ErrPeopleThere
	case !there && !more:
		return api.ErrPeopleNone
	case !more:
		without(g, l, name)
		return api.OK
	}
	if l == &g.Subs && (group == name || m.within(group, name)) {
		return api.ErrPeopleLoop
	}
	*l = append(*l, name)
	g.Version++
	return api.OK
}

// within: is a group in another one?
func (m *model) within(group, other string) bool {
	for _, sub := range m.groups[m.group(other)].Subs {
		if sub == group || m.within(group, sub) {
			return true
		}
	}
	return false
}

func usersOf(g *api.Group) *[]string { return &g.Users }
func subsOf(g *api.Group) *[]string  { return &g.Subs }
func rolesOf(g *api.Group) *[]string { return &g.Roles }

func (m *model) Join(g, s string) api.Errno   { return m.both(g, s, m.user(s), usersOf, true) }
func (m *model) Leave(g, s string) api.Errno  { return m.both(g, s, m.user(s), usersOf, false) }
func (m *model) Nest(g, s string) api.Errno   { return m.both(g, s, m.group(s), subsOf, true) }
func (m *model) Unnest(g, s string) api.Errno { return m.both(g, s, m.group(s), subsOf, false) }
func (m *model) Give(g, s string) api.Errno   { return m.both(g, s, m.role(s), rolesOf, true) }
func (m *model) Take(g, s string) api.Errno   { return m.both(g, s, m.role(s), rolesOf, false) }

func (m *model) PutRole(r api.Role) api.Errno {
	i := m.role(r.Name)
	switch {
	case !isName(r.Name) || !theyRise(r.Scopes, scopeForm):
		return api.ErrPeopleName
	case i < 0 && len(m.roles) == 32:
		return api.ErrPeopleFull
	case i < 0:
		m.roles = append(m.roles, r)
	default:
		m.roles[i] = r
	}
	return api.OK
}

func (m *model) DropRole(name string) api.Errno {
	i := m.role(name)
	return drop(name, i, func() {
		m.roles = slices.Delete(m.roles, i, i+1)
		for k := range m.groups {
			without(&m.groups[k], &m.groups[k].Roles, name)
		}
	})
}

func (m *model) PutClient(c api.Client) api.Errno {
	i := m.client(c.Id)
	switch {
	case !isName(c.Id) || !secretForm.MatchString(c.Secret) || !theyRise(c.Redirects, textForm) || !theyRise(c.Scopes, scopeForm):
		return api.ErrPeopleName
	case i < 0 && len(m.clients) == 32:
		return api.ErrPeopleFull
	case i < 0:
		m.clients = append(m.clients, c)
	default:
		m.clients[i] = c
	}
	return api.OK
}

func (m *model) DropClient(id string) api.Errno {
	i := m.client(id)
	return drop(id, i, func() {
		m.clients = slices.Delete(m.clients, i, i+1)
		m.deny("c:" + id)
	})
}

// allowed: where a may stands; an error, if there is none of whom it speaks.
func (m *model) allowed(actor, subject string) (int, api.Errno) {
	switch {
	case !principalForm.MatchString(actor) || !principalForm.MatchString(subject):
		return 0, api.ErrPeopleName
	case m.principal(actor) < 0 || m.principal(subject) < 0:
		return 0, api.ErrPeopleNone
	}
	return slices.Index(m.mays, api.May{Actor: actor, Subject: subject}), api.OK
}

func (m *model) Allow(actor, subject string) api.Errno {
	i, e := m.allowed(actor, subject)
	switch {
	case e != api.OK:
		return e
	case i >= 0:
		return api.ErrPeopleThere
	case len(m.mays) == 64:
		return api.ErrPeopleFull
	}
	m.mays = append(m.mays, api.May{Actor: actor, Subject: subject})
	return api.OK
}

func (m *model) Deny(actor, subject string) api.Errno {
	i, e := m.allowed(actor, subject)
	switch {
	case e != api.OK:
		return e
	case i < 0:
		return api.ErrPeopleNone
	}
	m.mays = slices.Delete(m.mays, i, i+1)
	return api.OK
}

// in: the groups that a user is in.
func (m *model) in(user string) []string {
	var l []string
	for _, g := range m.groups {
		has := slices.Contains(g.Users, user)
		for _, h := range m.groups {
			has = has || slices.Contains(h.Users, user) && m.within(h.Name, g.Name)
		}
		if has {
			l = append(l, g.Name)
		}
	}
	slices.Sort(l)
	return l
}

// holds: the scopes that a user has.
func (m *model) holds(user string) []string {
	var l []string
	for _, group := range m.in(user) {
		for _, role := range m.groups[m.group(group)].Roles {
			l = append(l, m.roles[m.role(role)].Scopes...)
		}
	}
	slices.Sort(l)
	return slices.Compact(l)
}

// sort: its lists, as they are told.
func (m *model) sort() {
	slices.SortFunc(m.users, func(a, b api.User) int { return cmp.Compare(a.Name, b.Name) })
	slices.SortFunc(m.groups, func(a, b api.Group) int { return cmp.Compare(a.Name, b.Name) })
	slices.SortFunc(m.roles, func(a, b api.Role) int { return cmp.Compare(a.Name, b.Name) })
	slices.SortFunc(m.clients, func(a, b api.Client) int { return cmp.Compare(a.Id, b.Id) })
	slices.SortFunc(m.mays, func(a, b api.May) int {
		return cmp.Or(cmp.Compare(a.Actor, b.Actor), cmp.Compare(a.Subject, b.Subject))
	})
	for _, g := range m.groups {
		slices.Sort(g.Users)
		slices.Sort(g.Subs)
		slices.Sort(g.Roles)
	}
}

// digit: of a flag.
func digit(b bool) string { return map[bool]string{false: "0", true: "1"}[b] }

// theRow: one text of a row behind the other; a list ahead of its things with how many it has.
func theRow(things ...any) string {
	s := ""
	for _, x := range things {
		if l, ok := x.([]string); ok {
			s += theRow(len(l))
			for _, t := range l {
				s += theRow(t)
			}
			continue
		}
		if b, ok := x.(bool); ok {
			x = digit(b)
		}
		s += fmt.Sprintf("%d:%v", len(fmt.Sprint(x)), x)
	}
	return s
}

// rows: its rows, once it is sorted.
func (m *model) rows() []api.Pair {
	var l []api.Pair
	for _, c := range m.clients {
		l = append(l, api.Pair{Key: "client/" + c.Id, Value: theRow(c.Secret, digit(c.Code)+digit(c.Own)+digit(c.Refresh)+digit(c.Swap), c.Redirects, c.Scopes)})
	}
	for _, g := range m.groups {
		l = append(l, api.Pair{Key: "group/" + g.Name, Value: theRow(g.Version, g.Users, g.Subs, g.Roles)})
	}
	for _, x := range m.mays {
		l = append(l, api.Pair{Key: "may/" + x.Actor + "|" + x.Subject})
	}
	for _, r := range m.roles {
		l = append(l, api.Pair{Key: "role/" + r.Name, Value: theRow(r.Scopes)})
	}
	for _, u := range m.users {
		l = append(l, api.Pair{Key: "user/" + u.Name, Value: theRow(u.Mail, u.Active, u.Version)})
	}
	slices.SortFunc(l, func(a, b api.Pair) int { return cmp.Compare(a.Key, b.Key) })
	return l
}

// is: an error is want.
func is(t testing.TB, e, want api.Errno) {
	t.Helper()
	if e != want {
		t.Errorf("%d; want %d", e, want)
	}
}

// emptyList: one that is told as such, where nil is told otherwise.
var emptyList = regexp.MustCompile(`(\[\][a-zA-Z.]+)\{\}`)

// told: an answer as a text; a list without anything is no other one than nil.
func told(x any) string { return emptyList.ReplaceAllString(fmt.Sprintf("%#v", x), "$1(nil)") }

// same: two answers.
func same(t testing.TB, what string, got, want any) {
	t.Helper()
	if a, b := told(got), told(want); a != b {
		t.Errorf("%s: %.600s; want %.600s", what, a, b)
	}
}

// tells: people tell what the model says.
func tells(t testing.TB, p *people.People, m *model) {
	t.Helper()
	m.sort()
	same(t, "Users", p.Users(), m.users)
	same(t, "Groups", p.Groups(), m.groups)
	same(t, "Roles", p.Roles(), m.roles)
	same(t, "Clients", p.Clients(), m.clients)
	same(t, "Mays", p.Mays(), m.mays)
	same(t, "Rows", p.Rows(), m.rows())
	for _, u := range m.users {
		got, ok := p.User(u.Name)
		same(t, "User", []any{got, ok, p.Active("u:" + u.Name)}, []any{u, true, u.Active})
		same(t, "In "+u.Name, p.In(u.Name), m.in(u.Name))
		same(t, "Holds "+u.Name, p.Holds(u.Name), m.holds(u.Name))
	}
	for _, g := range m.groups {
		got, ok := p.Group(g.Name)
		same(t, "Group", []any{got, ok}, []any{g, true})
	}
	for _, r := range m.roles {
		got, ok := p.Role(r.Name)
		same(t, "Role", []any{got, ok}, []any{r, true})
	}
	for _, c := range m.clients {
		got, ok := p.Client(c.Id)
		same(t, "Client", []any{got, ok, p.Active("c:" + c.Id)}, []any{c, true, true})
	}
	for _, x := range m.mays {
		if !p.May(x.Actor, x.Subject) {
			t.Errorf("May: %q", x)
		}
	}
}

// lacks: people tell nothing by a name that is none of theirs.
func lacks(t testing.TB, p *people.People, name string) {
	t.Helper()
	u, isUser := p.User(name)
	g, isGroup := p.Group(name)
	r, isRole := p.Role(name)
	c, isClient := p.Client(name)
	same(t, "none "+name, []any{u, g, r, c}, []any{api.User{}, api.Group{}, api.Role{}, api.Client{}})
	if isUser || isGroup || isRole || isClient || p.Active("u:"+name) || p.Active("c:"+name) || p.Active(name) {
		t.Errorf("%q: %t, %t, %t, %t", name, isUser, isGroup, isRole, isClient)
	}
	if p.In(name) != nil || p.Holds(name) != nil {
		t.Errorf("%q: in %q, holds %q", name, p.In(name), p.Holds(name))
	}
}

// twin: people and a model, on which the same calls are made.
type twin struct {
	testing.TB
	p *people.People
	m *model
}

func newTwin(t testing.TB) *twin { return &twin{t, people.New(), &model{}} }

func (w *twin) clone() *twin { return &twin{w.TB, w.p.Clone(), w.m.clone()} }

// does: a call on both, which answer the same.
func (w *twin) does(c call) api.Errno {
	w.Helper()
	e, want := c.on(w.p), c.on(w.m)
	if e != want {
		w.Fatalf("%+v: %d; want %d", c, e, want)
	}
	return e
}

// same: both tell the same.
func (w *twin) same() {
	w.Helper()
	tells(w.TB, w.p, w.m)
}

// anyOf: one of these.
func anyOf[T any](r *rand.Rand, l ...T) T { return l[r.Intn(len(l))] }

// anyName: one of few, most of which may be names.
func anyName(r *rand.Rand) string {
	return anyOf(r, "a", "a", "b", "b", "c", "c", "a-", "a.b", "ab", "0", "A", "")
}

func anyList(r *rand.Rand, texts ...string) []string {
	var l []string
	for _, s := range texts {
		if r.Intn(2) == 0 {
			l = append(l, s)
		}
	}
	if r.Intn(20) == 0 {
		slices.Reverse(l)
	}
	return l
}

func anyPrincipal(r *rand.Rand) string {
	return anyOf(r, "u:", "u:", "c:", "c:", "x:", "") + anyName(r)
}

// anyCall: one that comes by chance.
func anyCall(r *rand.Rand) call {
	c := call{what: anyOf(r, anyCalls()...), a: anyName(r), b: anyName(r), yes: r.Intn(2) == 0}
	switch c.what {
	case "AddUser", "SetMail":
		c.b = anyOf(r, "a@x", "b@x", "", "a b")
	case "Allow", "Deny":
		c.a, c.b = anyPrincipal(r), anyPrincipal(r)
	case "PutRole":
		c.role = api.Role{Name: c.a, Scopes: anyList(r, "admin", "b:c", "read", "write", "z")}
	case "PutClient":
		c.client = api.Client{Id: c.a, Secret: anyOf(r, "", strings.Repeat("0", 64), "00"), Redirects: anyList(r, "http://x", "y", "z"), Scopes: anyList(r, "admin", "read")}
		c.client.Code, c.client.Own, c.client.Refresh, c.client.Swap = r.Intn(2) == 0, r.Intn(2) == 0, r.Intn(2) == 0, r.Intn(2) == 0
	}
	return c
}

// numbered: so many names with one beginning, rising.
func numbered(prefix string, n int) []string {
	var l []string
	for i := range n {
		l = append(l, fmt.Sprintf("%s%02d", prefix, i))
	}
	return l
}

// of: a call of texts.
func of(what, a string, b ...string) call { return call{what: what, a: a, b: strings.Join(b, "")} }

func putRole(name string, scopes ...string) call {
	return call{what: "PutRole", role: api.Role{Name: name, Scopes: scopes}}
}

func putClient(id string) call { return call{what: "PutClient", client: api.Client{Id: id}} }

func setActive(name string, yes bool) call { return call{what: "SetActive", a: name, yes: yes} }

// all: calls on both, which all answer OK.
func (w *twin) all(calls ...call) {
	w.Helper()
	for _, c := range calls {
		if e := w.does(c); e != api.OK {
			w.Fatalf("%+v: %d", c, e)
		}
	}
}

// answers: a call on both, and its error; if it is one, nothing has changed.
func (w *twin) answers(c call, want api.Errno) {
	w.Helper()
	before := w.p.Rows()
	is(w.TB, w.does(c), want)
	if want != api.OK && !slices.Equal(w.p.Rows(), before) {
		w.Errorf("%+v: %q; want %q", c, w.p.Rows(), before)
	}
	w.same()
}

// some: a few of all.
func some(t testing.TB) *twin {
	w := newTwin(t)
	w.all(
		of("AddUser", "ann", "a@x"), of("AddUser", "bob", "b@x"), of("AddUser", "cid", "c@x"),
		of("AddGroup", "g"), of("AddGroup", "h"), of("AddGroup", "i"), of("AddGroup", "j"),
		of("Nest", "g", "h"), of("Nest", "h", "i"), of("Nest", "j", "i"),
		of("Join", "i", "ann"), of("Join", "h", "bob"), of("Join", "h", "ann"),
		putRole("r", "read", "write"), putRole("s", "admin", "read"), putRole("t"),
		of("Give", "g", "r"), of("Give", "j", "s"), of("Give", "j", "r"),
		putClient("app"), putClient("bot"),
		of("Allow", "c:app", "u:ann"), of("Allow", "u:ann", "u:bob"), of("Allow", "c:bot", "c:app"), of("Allow", "u:cid", "u:cid"),
		setActive("cid", false),
	)
	w.same()
	return w
}

// loads: rows are those of people, who tell them; refuses: they are not.
func loads(t testing.TB, rows []api.Pair) *people.People {
	t.Helper()
	p, e := people.Load(rows)
	if e != api.OK || p == nil {
		t.Fatalf("%.400q: %v, %d", rows, p, e)
	}
	same(t, "Rows", p.Rows(), rows)
	return p
}

func refuses(t testing.TB, rows []api.Pair) {
	t.Helper()
	if p, e := people.Load(rows); p != nil || e != api.ErrPeopleForm {
		t.Errorf("%.400q: %v, %d", rows, p, e)
	}
}
