package forest_test

import (
	"cmp"
	"fmt"
	"math/rand"
	"regexp"
	"slices"
	"strconv"
	"strings"
	"testing"

	"seneschal/api"
	"seneschal/forest"
)

// changer is a forest, or what it is after the chapter's words.
type changer interface {
	Plant(n api.Node, now int) (int, api.Errno)
	Spend(id, now int) api.Errno
	Kill(id int) api.Errno
	KillOf(principal string) int
	Lift(id, level int) api.Errno
	Note(id int, data string) api.Errno
	Prune(now int) int
}

// call of a changer: its name, and what is handed in.
type call struct {
	what           string
	node           api.Node
	id, now, level int
	text           string
}

func (c call) on(x changer) (int, api.Errno) {
	switch c.what {
	case "Plant":
		return x.Plant(c.node, c.now)
	case "Spend":
		return 0, x.Spend(c.id, c.now)
	case "Kill":
		return 0, x.Kill(c.id)
	case "KillOf":
		return x.KillOf(c.text), api.OK
	case "Lift":
		return 0, x.Lift(c.id, c.level)
	case "Note":
		return 0, x.Note(c.id, c.text)
	case "Prune":
		return x.Prune(c.now), api.OK
	}
	panic(c.what)
}

func plant(n api.Node, now int) call     { return call{what: "Plant", node: n, now: now} }
func spend(id, now int) call             { return call{what: "Spend", id: id, now: now} }
func kill(id int) call                   { return call{what: "Kill", id: id} }
func killOf(principal string) call       { return call{what: "KillOf", text: principal} }
func lift(id, level int) call            { return call{what: "Lift", id: id, level: level} }
func note(id int, data string) call      { return call{what: "Note", id: id, text: data} }
func prune(now int) call                 { return call{what: "Prune", now: now} }
func is(t testing.TB, e, want api.Errno) { t.Helper(); same(t, "error", e, want) }

// model: a forest after the chapter's words, in a list of any order.
type model struct {
	nodes []api.Node
	next  int
}

func newModel() *model { return &model{next: 1} }

func (m *model) clone() *model { return &model{slices.Clone(m.nodes), m.next} }

var (
	nameForm      = regexp.MustCompile(`\A([a-z0-9._-]{1,24})?\z`)
	textForm      = regexp.MustCompile(`\A[!-~]{0,128}\z`)
	scopeForm     = regexp.MustCompile(`\A[a-z0-9._:-]{1,32}\z`)
	principalForm = regexp.MustCompile(`\A[uc]:[a-z0-9._-]{1,24}\z`)
)

func (m *model) mayBe(n api.Node) bool {
	ok := slices.Contains([]int{1, 2, 3, 4, 5}, n.Kind) && slices.Contains([]int{0, 1, 2, 3}, n.Level) && n.Parent >= 0
	ok = ok && principalForm.MatchString(n.Subject) && nameForm.MatchString(n.Client) && textForm.MatchString(n.Audience)
	ok = ok && n.Born >= 0 && n.Exp >= 0 && n.Born <= 1<<40 && n.Exp <= 1<<40
	ok = ok && len(n.Scope) <= 16 && len(n.Actors) <= 4 && len(n.Secret) >= 1 && len(n.Secret) <= 64 && len(n.Data) <= 256
	for i, s := range n.Scope {
		ok = ok && scopeForm.MatchString(s) && !slices.ContainsFunc(n.Scope[:i], func(other string) bool { return other >= s })
	}
	return ok && !slices.ContainsFunc(n.Actors, func(s string) bool { return !principalForm.MatchString(s) })
}

func (m *model) at(id int) int {
	return slices.IndexFunc(m.nodes, func(n api.Node) bool { return n.Id == id })
}

func (m *model) by(secret string) int {
	return slices.IndexFunc(m.nodes, func(n api.Node) bool { return n.Secret == secret })
}

// path of a number: of nodes that are there.
func (m *model) path(id int) []int {
	i := m.at(id)
	if i < 0 {
		return nil
	}
	return append([]int{id}, m.path(m.nodes[i].Parent)...)
}

func (m *model) dead(id int) bool {
	return slices.ContainsFunc(m.path(id), func(id int) bool { return m.nodes[m.at(id)].Dead })
}

func (m *model) live(id, now int) bool {
	i := m.at(id)
	return i >= 0 && !m.nodes[i].Spent && m.nodes[i].Exp > now && !m.dead(id)
}

func (m *model) Plant(n api.Node, now int) (int, api.Errno) {
	switch {
	case !m.mayBe(n):
		return 0, api.ErrForestNode
	case m.by(n.Secret) >= 0:
		return 0, api.ErrForestSecret
	case n.Parent > 0 && (m.at(n.Parent) < 0 || m.dead(n.Parent)):
		return 0, api.ErrForestDead
	}
	m.Prune(now)
	if len(m.nodes) == 256 || m.next == 99999999 {
		return 0, api.ErrForestFull
	}
	n.Id, n.Dead, n.Spent = m.next, false, false
	// The newest first, so that nothing is told as it lies.
	m.nodes = slices.Insert(m.nodes, 0, n)
	m.next++
	return n.Id, api.OK
}

func (m *model) Spend(id, now int) api.Errno {
	i := m.at(id)
	switch {
	case i < 0:
		return api.ErrForestNode
	case m.nodes[i].Spent:
		m.nodes[i].Dead = true
		return api.ErrForestSpent
	case !m.live(id, now):
		return api.ErrForestDead
	}
	m.nodes[i].Spent = true
	return api.OK
}

func (m *model) Kill(id int) api.Errno {
	i := m.at(id)
	if i < 0 {
		return api.ErrForestNode
	}
	m.nodes[i].Dead = true
	return api.OK
}

func (m *model) KillOf(principal string) int {
	count := 0
	for i, n := range m.nodes {
		if !n.Dead && (n.Subject == principal || n.Client != "" && principal == "c:"+n.Client) {
			m.nodes[i].Dead = true
			count++
		}
	}
	return count
}

func (m *model) Lift(id, level int) api.Errno {
	i := m.at(id)
	if i < 0 || m.nodes[i].Kind != 1 || level < 1 || level > 3 {
		return api.ErrForestNode
	}
	if level > m.nodes[i].Level {
		m.nodes[i].Level = level
	}
	return api.OK
}

func (m *model) Note(id int, data string) api.Errno {
	i := m.at(id)
	if i < 0 || len(data) > 256 {
		return api.ErrForestNode
	}
	m.nodes[i].Data = data
	return api.OK
}

func (m *model) Prune(now int) int {
	var stays []int
	for _, n := range m.nodes {
		if m.live(n.Id, now) {
			stays = append(stays, m.path(n.Id)...)
		}
	}
	before := len(m.nodes)
	m.nodes = slices.DeleteFunc(m.nodes, func(n api.Node) bool { return !slices.Contains(stays, n.Id) })
	return before - len(m.nodes)
}

// sorted: its nodes, by their numbers.
func (m *model) sorted() []api.Node {
	return slices.SortedFunc(slices.Values(m.nodes), func(a, b api.Node) int { return cmp.Compare(a.Id, b.Id) })
}

// theRow: one text of a row behind the other; a list ahead of its things with how many it has.
func theRow(things ...any) string {
	s := ""
	for _, x := range things {
		switch v := x.(type) {
		case []string:
			s += theRow(len(v))
			for _, t := range v {
				s += theRow(t)
			}
			continue
		case bool:
			x = map[bool]int{true: 1}[v]
		}
		s += fmt.Sprintf("%d:%v", len(fmt.Sprint(x)), x)
	}
	return s
}

// nodeRow: a node's.
func nodeRow(n api.Node) api.Pair {
	return api.Pair{Key: fmt.Sprintf("node/%08d", n.Id), Value: theRow(n.Kind, n.Parent, n.Subject, n.Client, n.Audience, n.Scope, n.Born, n.Exp, n.Dead, n.Spent, n.Actors, n.Level, n.Secret, n.Data)}
}

// rowsOf: those of a forest with that next number.
func rowsOf(next int, nodes ...api.Node) []api.Pair {
	l := []api.Pair{{Key: "forest", Value: theRow(next)}}
	for _, n := range nodes {
		l = append(l, nodeRow(n))
	}
	return l
}

func (m *model) rows() []api.Pair { return rowsOf(m.next, m.sorted()...) }

// emptyList: one that is told as such, where nil is told otherwise.
var emptyList = regexp.MustCompile(`(\[\][a-zA-Z.]+)\{\}`)

// told: an answer as a text; a list without anything is no other one than nil.
func told(x any) string { return emptyList.ReplaceAllString(fmt.Sprintf("%#v", x), "$1(nil)") }

// same: two answers.
func same(t testing.TB, what string, got, want any) {
	t.Helper()
	if a, b := told(got), told(want); a != b {
		t.Errorf("%s: %.600s; want %.600s", what, a, b)
	}
}

// times: those about which a node's life may change, and the ends.
func times(m *model) []int {
	l := []int{-1 << 63, -1, 0, 1, api.MaxTick - 1, api.MaxTick, api.MaxTick + 1, 1<<63 - 1}
	for _, n := range m.nodes {
		l = append(l, n.Exp-1, n.Exp)
	}
	slices.Sort(l)
	return slices.Compact(l)
}

// tells: a forest tells what the model says.
func tells(t testing.TB, f *forest.Forest, m *model) {
	t.Helper()
	same(t, "Nodes", f.Nodes(), m.sorted())
	same(t, "Rows", f.Rows(), m.rows())
	for _, n := range m.nodes {
		got, ok := f.Get(n.Id)
		same(t, "Get", []any{got, ok}, []any{n, true})
		got, ok = f.Find(n.Secret)
		same(t, "Find", []any{got, ok}, []any{n, true})
		same(t, "Path", f.Path(n.Id), m.path(n.Id))
		for _, now := range []int{-1, n.Exp - 1, n.Exp, n.Exp + 1} {
			if f.Live(n.Id, now) != m.live(n.Id, now) {
				t.Errorf("Live(%d, %d) of %.400q: %t", n.Id, now, m.rows(), f.Live(n.Id, now))
			}
		}
		lacks(t, f, m, n.Parent, n.Secret+"x")
	}
	lacks(t, f, m, m.next, "")
}

// lacks: a forest tells nothing by a number, by a secret, that the model has not.
func lacks(t testing.TB, f *forest.Forest, m *model, id int, secret string) {
	t.Helper()
	if m.at(id) < 0 {
		n, ok := f.Get(id)
		same(t, "Get", []any{n, ok, f.Path(id), f.Live(id, -1)}, []any{api.Node{}, false, []int(nil), false})
	}
	if m.by(secret) < 0 {
		n, ok := f.Find(secret)
		same(t, "Find", []any{n, ok}, []any{api.Node{}, false})
	}
}

// twin: a forest and a model, on which the same calls are made.
type twin struct {
	testing.TB
	f *forest.Forest
	m *model
}

func newTwin(t testing.TB) *twin { return &twin{t, forest.New(), newModel()} }

func (w *twin) clone() *twin { return &twin{w.TB, w.f.Clone(), w.m.clone()} }

// does: a call on both, which answer the same.
func (w *twin) does(c call) (int, api.Errno) {
	w.Helper()
	n, e := c.on(w.f)
	if wantN, want := c.on(w.m); n != wantN || e != want {
		w.Fatalf("%+v: %d, %d; want %d, %d", c, n, e, wantN, want)
	}
	return n, e
}

// same: both tell the same.
func (w *twin) same() {
	w.Helper()
	tells(w.TB, w.f, w.m)
}

// answers: a call on both, and its error.
func (w *twin) answers(c call, want api.Errno) {
	w.Helper()
	_, e := w.does(c)
	if e != want {
		w.Errorf("%+v: %d; want %d", c, e, want)
	}
	w.same()
}

// refuses: a call on both that answers an error and changes nothing.
func (w *twin) refuses(c call, want api.Errno) {
	w.Helper()
	before := w.f.Rows()
	w.answers(c, want)
	same(w.TB, "rows behind an error", w.f.Rows(), before)
}

// gives: a call on both that answers a number, and OK.
func (w *twin) gives(c call, want int) {
	w.Helper()
	n, e := w.does(c)
	same(w.TB, c.what, []int{n, int(e)}, []int{want, 0})
	w.same()
}

// all: calls on both, which all answer OK.
func (w *twin) all(calls ...call) {
	w.Helper()
	for _, c := range calls {
		if _, e := w.does(c); e != api.OK {
			w.Fatalf("%+v: %d", c, e)
		}
	}
	w.same()
}

// a node of a secret that hangs on another one: a session, or, with a parent, an access token.
func on(parent int, secret string, exp int) api.Node {
	n := api.Node{Kind: api.Access, Parent: parent, Subject: "u:ann", Client: "app", Exp: exp, Secret: secret}
	if parent == 0 {
		n.Kind, n.Client = api.Session, ""
	}
	return n
}

// full: a node that has as much of all as one may have.
func full(parent int, secret string) api.Node {
	n := api.Node{Kind: api.Refresh, Parent: parent, Subject: "u:" + strings.Repeat("s", 24), Client: strings.Repeat("c", 24), Audience: strings.Repeat("~", 128), Born: api.MaxTick, Exp: api.MaxTick, Level: 3}
	for i := range 16 {
		n.Scope = append(n.Scope, fmt.Sprintf("%02d", i)+strings.Repeat(":", 30))
	}
	for i := range 4 {
		n.Actors = append(n.Actors, fmt.Sprintf("c:%024d", 4-i))
	}
	n.Secret = secret + strings.Repeat("\xff", 64-len(secret))
	n.Data = strings.Repeat("\x00", 256)
	return n
}

// some: a few of all kinds.
//
//	1 ann's session: 2 code (spent): 3 access, 4 refresh: 5 access
//	6 bob's session: 7 ticket (dead)
//	8 the app's access, alone
func some(t testing.TB) *twin {
	w := newTwin(t)
	w.all(
		plant(api.Node{Kind: api.Session, Subject: "u:ann", Born: 1, Exp: 100, Level: 1, Secret: "s1", Data: "challenge"}, 1),
		plant(api.Node{Kind: api.Code, Parent: 1, Subject: "u:ann", Client: "app", Scope: []string{"openid", "read"}, Born: 2, Exp: 12, Level: 1, Secret: "c2", Data: "1:a"}, 2),
		plant(api.Node{Kind: api.Access, Parent: 2, Subject: "u:ann", Client: "app", Audience: "http://x", Scope: []string{"openid", "read"}, Born: 3, Exp: 53, Level: 1, Secret: "a3"}, 3),
		plant(api.Node{Kind: api.Refresh, Parent: 2, Subject: "u:ann", Client: "app", Scope: []string{"read"}, Born: 3, Exp: 203, Level: 1, Secret: "r4"}, 3),
		spend(2, 3),
		plant(api.Node{Kind: api.Access, Parent: 4, Subject: "u:ann", Client: "bot", Scope: []string{"read"}, Born: 4, Exp: 54, Actors: []string{"c:bot", "u:bob"}, Level: 1, Secret: "a5"}, 4),
		plant(api.Node{Kind: api.Session, Subject: "u:bob", Born: 5, Exp: 105, Level: 2, Secret: "s6"}, 5),
		plant(api.Node{Kind: api.Ticket, Parent: 6, Subject: "u:bob", Born: 5, Exp: 25, Secret: "t7"}, 5),
		plant(api.Node{Kind: api.Access, Subject: "c:app", Client: "app", Scope: []string{"admin"}, Born: 6, Exp: 56, Secret: "a8"}, 6),
		kill(7),
	)
	return w
}

// anyOf: one of these.
func anyOf[T any](r *rand.Rand, l ...T) T { return l[r.Intn(len(l))] }

// anyNode: one that comes by chance, on one of few, with one of few secrets; most of them may be.
func anyNode(r *rand.Rand, next int) api.Node {
	n := api.Node{
		Kind: 1 + r.Intn(5), Parent: anyId(r, next),
		Subject: anyOf(r, "u:a", "u:a", "u:b", "c:a", "c:b"), Client: anyOf(r, "", "", "a", "b"), Audience: anyOf(r, "", "http://x"),
		Scope: anyOf(r, nil, []string{"a"}, []string{"a", "b"}), Actors: anyOf(r, nil, nil, []string{"u:a"}, []string{"c:b", "c:b"}),
		Born: r.Intn(20), Exp: r.Intn(40), Level: r.Intn(4), Secret: strconv.Itoa(r.Intn(200)), Data: anyOf(r, "", "x", "1:a"),
		// These aren't looked at.
		Id: r.Intn(9), Dead: r.Intn(2) == 0, Spent: r.Intn(2) == 0,
	}
	if r.Intn(15) == 0 {
		anyOf(r,
			func() { n.Kind = anyOf(r, 0, 6, -1) }, func() { n.Subject = anyOf(r, "", "a", "u:") }, func() { n.Client = "A" },
			func() { n.Scope = []string{"b", "a"} }, func() { n.Exp = -1 }, func() { n.Secret = "" }, func() { n.Level = 4 },
		)()
	}
	return n
}

func anyId(r *rand.Rand, next int) int {
	return anyOf(r, 0, r.Intn(next+1), max(0, next-1-r.Intn(5)), next-1, -r.Intn(3))
}

// anyCall: one that comes by chance at about that time.
func anyCall(r *rand.Rand, next, now int) call {
	c := call{id: anyId(r, next), now: now + r.Intn(3) - 1, level: r.Intn(6) - 1, text: anyOf(r, "u:a", "u:b", "c:a", "c:b", "a", "", "c:", "u:", "c:A")}
	c.what = anyOf(r, "Plant", "Plant", "Plant", "Plant", "Plant", "Spend", "Spend", "Kill", "Lift", "Note", "Note", "Prune")
	if r.Intn(25) == 0 {
		c.what = "KillOf"
	}
	if c.what == "Plant" {
		c.node = anyNode(r, next)
		c.node.Exp += now
	}
	return c
}

// loads: rows are those of a forest, which tells them; unfit: they are not.
func loads(t testing.TB, rows []api.Pair) *forest.Forest {
	t.Helper()
	f, e := forest.Load(rows)
	if e != api.OK || f == nil {
		t.Fatalf("%.400q: %v, %d", rows, f, e)
	}
	same(t, "Rows", f.Rows(), rows)
	return f
}

func unfit(t testing.TB, rows []api.Pair) {
	t.Helper()
	if f, e := forest.Load(rows); f != nil || e != api.ErrForestForm {
		t.Errorf("%.400q: %v, %d", rows, f, e)
	}
}
