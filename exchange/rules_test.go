package exchange_test

import (
	"fmt"
	"maps"
	"math/rand"
	"slices"
	"strings"
	"sync"
	"testing"
	"unsafe"

	"seneschal/api"
	"seneschal/exchange"
	"seneschal/oauth"
	"seneschal/token"
)

// revoke a token, as the client to which it was given.
func (d *desk) revoke(text, client string) {
	d.Helper()
	reply := oauth.Do(d.Realm, by(api.Ask{Kind: api.AskRevoke, Token: text}, client), 11, oauth.NewTape(nil))
	same(d, "revoke", reply, api.Reply{Status: 200})
}

// usable: may a token still be borne at a time?
func (d *desk) usable(text string, now int) bool {
	_, ok := oauth.Bearer(d.Realm, text, now)
	return ok
}

// Whatever the subject's token hangs on is over: so is what came of it, and what came of that.
func TestP182Revoked(t *testing.T) {
	for what, end := range map[string]func(d *desk){
		"token":   func(d *desk) { d.revoke(d.texts["ann"], "web") },
		"session": func(d *desk) { fits(d, d.F.Kill(d.ids["s-ann"])) },
		"subject": func(d *desk) { d.F.KillOf("u:ann") },
		"itself":  func(d *desk) { fits(d, d.F.Kill(d.last().Parent)) },
	} {
		d := open(t)
		first := d.done(d.swap("ann", "bob", ""), 11, drawn(1)).Access
		a := d.swap("", "bot", "")
		a.Token = first
		second := d.done(a, 12, drawn(2)).Access
		same(t, what, []bool{d.usable(first, 12), d.usable(second, 12)}, []bool{true, true})
		end(d)
		for _, now := range []int{0, 12, 60} {
			same(t, what, []bool{d.usable(first, now), d.usable(second, now)}, []bool{false, false})
		}
		d.refused(what, a, 12, api.ErrOauthToken, drawn(3))
		// It stays so, whoever is taken back.
		fits(t, d.P.SetActive("ann", false), d.P.SetActive("ann", true))
		same(t, what, []bool{d.usable(first, 12), d.usable(second, 12)}, []bool{false, false})
	}
}

// The subject's token outlives what came of it, and the actor's end is its own.
func TestP182NotRevoked(t *testing.T) {
	d := open(t)
	text := d.done(d.swap("ann", "bob", ""), 11, drawn(1)).Access
	fits(t, d.F.Kill(d.ids["bob"]))
	same(t, "behind the actor's end", d.usable(text, 60), true)
	d.revoke(text, "app")
	same(t, "behind its own end", []bool{d.usable(text, 11), d.usable(d.texts["ann"], 11)}, []bool{false, true})
	d.done(d.swap("ann", "", ""), 11, drawn(2))
}

// No token comes of tokens alone, if nobody may act for anybody.
func TestP182NoMay(t *testing.T) {
	d := open(t)
	for _, m := range mays() {
		fits(t, d.P.Deny(m.Actor, m.Subject))
	}
	names := append(slices.Sorted(maps.Keys(d.texts)), "")
	for _, c := range clients() {
		for _, name := range names {
			for _, actor := range names {
				tape := oauth.NewTape(drawnAll(1, 1))
				if reply := exchange.Do(d.Realm, by(d.swap(name, actor, ""), c.Id), 9, tape); reply.Code == api.OK || reply.Access != "" {
					t.Errorf("%s for %s by %s: %+v", actor, name, c.Id, reply)
				}
			}
		}
	}
}

// walk: a desk on which exchanges come by chance.
type walk struct {
	*desk
	by        *rand.Rand
	now, draw int
	given     []string // tokens, the newest last
	met       map[string]int
	over      map[int]bool // nodes that are never usable again
}

func newWalk(t testing.TB, seed int64) *walk {
	d := open(t)
	w := &walk{desk: d, by: rand.New(rand.NewSource(seed)), now: 3, met: map[string]int{}, over: map[int]bool{}}
	for _, name := range slices.Sorted(maps.Keys(d.texts)) {
		w.given = append(w.given, d.texts[name])
	}
	return w
}

// text: a token that was given, most often a late one, or another text.
func (w *walk) text() string {
	l := w.given
	if w.by.Intn(3) > 0 {
		l = l[max(0, len(l)-12):]
	}
	return anyOf(w.by, append(slices.Clone(l), "none")...)
}

func (w *walk) scope() string {
	var l []string
	for _, s := range []string{"openid", "read", "mail", "admin", "write", "extra"} {
		if w.by.Intn(4) == 0 {
			l = append(l, s)
		}
	}
	w.by.Shuffle(len(l), func(i, j int) { l[i], l[j] = l[j], l[i] })
	return strings.Join(l, anyOf(w.by, " ", " ", " ", " ", " ", "  "))
}

// ask: an exchange by chance.
func (w *walk) ask() api.Ask {
	a := by(api.Ask{Kind: api.AskExchange, Token: w.text(), Scope: anyOf(w.by, "", "", "read", w.scope()), Audience: anyOf(w.by, "", "", "https://api")}, anyOf(w.by, "app", "app", "bot", "spa", "idle", "bare", "web", "none"))
	if w.by.Intn(2) > 0 {
		a.Actor = w.text()
	}
	switch w.by.Intn(25) {
	case 0:
		a.Secret = "else"
	case 1, 2, 3:
		a.Audience = "a b"
	case 4:
		a.Kind = w.by.Intn(api.Asks)
	}
	return a
}

func (w *walk) draws() []string {
	w.draw += 2
	l := drawnAll(w.draw, 2)
	switch w.by.Intn(14) {
	case 0:
		l[0] = anyOf(w.by, "short", "", long(17))
	case 1:
		l = nil
	case 2:
		l[0] = drawn(w.by.Intn(w.draw))
	}
	return l
}

// turn: something of the realm becomes otherwise, which no exchange does.
func (w *walk) turn() {
	actor, subject := anyOf(w.by, "c:app", "c:bot", "u:bob", "u:ann", "c:spa"), anyOf(w.by, "u:ann", "u:bob", "c:app", "c:bot")
	name := anyOf(w.by, "ann", "bob", "cid")
	anyOf(w.by,
		func() { w.P.Allow(actor, subject) }, func() { w.P.Allow(actor, subject) }, func() { w.P.Deny(actor, subject) },
		func() { w.P.SetActive(name, false) }, func() { w.P.SetActive(name, true) }, func() { w.P.SetActive("ann", true) }, func() { w.P.SetActive("bob", true) },
		func() { w.R.Turn(fmt.Sprint("seed ", w.by.Intn(40))) },
		func() { w.kill(1 + w.by.Intn(w.last().Id)) },
		func() { w.C.AccessTtl = anyOf(w.by, 1, 5, 50, 50, 200) },
		func() {
			w.clientWith(anyOf(w.by, "app", "bot", "spa"), func(c *api.Client) {
				c.Swap = w.by.Intn(4) > 0
				c.Scopes = slices.DeleteFunc([]string{"admin", "mail", "openid", "read", "write"}, func(string) bool { return w.by.Intn(3) == 0 })
			})
		},
		func() {
			n := api.Node{Kind: api.Access, Parent: anyOf(w.by, 0, 0, w.ids["s-bob"]), Subject: subject, Client: anyOf(w.by, "", "web"), Scope: []string{"mail", "read", "write"}, Born: w.now, Exp: w.now + w.by.Intn(300), Level: w.by.Intn(4), Secret: fmt.Sprint("jti ", w.by.Int())}
			if _, e := w.F.Plant(n, w.now); e == api.OK {
				w.given = append(w.given, w.textOf(n))
			}
		},
	)()
}

// kill a node, and note which ones are over for good.
func (w *walk) kill(id int) {
	if w.F.Kill(id) != api.OK {
		return
	}
	for _, n := range w.F.Nodes() {
		if slices.Contains(w.F.Path(n.Id), id) {
			w.over[n.Id] = true
		}
	}
}

// step: an exchange, and what came of it.
func (w *walk) step() {
	w.Helper()
	a, may := w.ask(), w.P.Mays()
	subject, _ := oauth.Bearer(w.Realm, a.Token, w.now)
	actor, _ := oauth.Bearer(w.Realm, a.Actor, w.now)
	reply := w.asks(a, w.now, w.draws()...)
	w.met[fmt.Sprint(int(reply.Code))]++
	if reply.Code == api.OK {
		w.given = append(w.given, reply.Access)
		w.isLess(a, subject, actor, may)
	}
	for _, n := range w.F.Nodes() {
		for _, id := range w.F.Path(n.Id) {
			w.over[n.Id] = w.over[n.Id] || w.over[id]
		}
		if w.over[n.Id] && (oauth.Usable(w.Realm, n, w.now) || oauth.Usable(w.Realm, n, 0)) {
			w.Errorf("%+v is usable behind its end", n)
		}
	}
}

// isLess: what came may no more than the subject's token, ends no later, and says who acts, who was allowed.
func (w *walk) isLess(a api.Ask, subject, actor api.Node, may []api.May) {
	w.Helper()
	n, chain, who := w.last(), subject.Actors, "c:"+a.Client
	if a.Actor != "" {
		who = actor.Subject
		chain = slices.Concat([]string{who}, actor.Actors, subject.Actors)
		if n.Exp > actor.Exp {
			w.Errorf("%+v ends later than %+v", n, actor)
		}
	}
	same(w, "chain", n.Actors, chain)
	c, _ := w.P.Client(a.Client)
	if !within(n.Scope, subject.Scope) || !within(n.Scope, c.Scopes) || len(n.Scope) == 0 || n.Exp > subject.Exp || n.Exp <= w.now || len(n.Actors) > 4 || n.Subject != subject.Subject || n.Level != subject.Level || n.Parent != subject.Id || n.Client != a.Client {
		w.Errorf("%+v of %+v", n, subject)
	}
	if !slices.Contains(may, api.May{Actor: who, Subject: subject.Subject}) {
		w.Errorf("%s may not act for %s", who, subject.Subject)
	}
}

// Exchanges by chance, among changes by chance, are answered as the model answers them.
func TestP182ExchangesByChance(t *testing.T) {
	met := map[string]int{}
	for seed := range int64(40) {
		w := newWalk(t, seed)
		for range 160 {
			w.step()
			if w.by.Intn(4) == 0 {
				w.turn()
			}
			w.now += anyOf(w.by, 0, 0, 0, 1, 1, w.by.Intn(6))
			if t.Failed() {
				t.Fatalf("seed %d", seed)
			}
		}
		for what, n := range w.met {
			met[what] += n
		}
	}
	for _, code := range []int{0, 3, 170, 172, 173, 174, 176, 180, 181, 210} {
		if met[fmt.Sprint(code)] < 8 {
			t.Errorf("%d: met %d times: %v", code, met[fmt.Sprint(code)], met)
		}
	}
}

// volatile: texts whose bytes become other ones by spoil, as if somebody else took their memory.
type volatile struct{ all [][]byte }

func (v *volatile) text(s string) string {
	b := append([]byte(s), 0)[:len(s)]
	v.all = append(v.all, b)
	return unsafe.String(unsafe.SliceData(b), len(b))
}

func (v *volatile) spoil() {
	for _, b := range v.all {
		for i := range b {
			b[i] = 'X'
		}
	}
}

func TestR4WhatIsAnsweredIsNew(t *testing.T) {
	var v volatile
	d, plain := open(t), open(t)
	d.C.Issuer = v.text(d.C.Issuer)
	var got, want []any
	for i, scope := range []string{"read mail", "", "openid"} {
		a := plain.swap("ann", anyFor(i, "bob", ""), scope)
		a.Audience = "https://api"
		want = append(want, exchange.Do(plain.Realm, a, 11, oauth.NewTape(drawnAll(i, 1))))
		for _, s := range []*string{&a.Client, &a.Secret, &a.Token, &a.Actor, &a.Scope, &a.Audience} {
			*s = v.text(*s)
		}
		got = append(got, exchange.Do(d.Realm, a, 11, oauth.NewTape([]string{v.text(drawn(i))})))
	}
	v.spoil()
	same(t, "answers", got, want)
	same(t, "rows", d.F.Rows(), plain.F.Rows())
}

// What is answered is the caller's: it may write into it, and behind it.
func TestR4ListsAreNeitherKeptNorShared(t *testing.T) {
	d := open(t)
	for i, scope := range []string{"", "read mail", "mail"} {
		a := d.swap("ann2", "bob2", scope)
		a.Token = d.texts["ann1"]
		before := stateOf(d.Realm)
		reply := exchange.Do(d.Realm, a, 11, oauth.NewTape(drawnAll(i, 1)))
		same(t, "Code", reply.Code, api.OK)
		rows := stateOf(d.Realm)
		if rows == before {
			t.Error("nothing came")
		}
		l := reply.Scope[:cap(reply.Scope)]
		for i := range l {
			l[i] = "spoiled"
		}
		same(t, "state", stateOf(d.Realm), rows)
	}
	// A list of the ask that an exchange doesn't use stays as it is.
	a := d.swap("ann", "", "")
	a.Fields = []api.Field{{Name: "b", Values: []string{"2", "1"}}, {Name: "a"}}
	d.done(a, 11, drawn(9))
	same(t, "fields", a.Fields, []api.Field{{Name: "b", Values: []string{"2", "1"}}, {Name: "a"}})
}

// R5: what clones are asked for at the same time shows in no answer.
func TestR5AtTheSameTime(t *testing.T) {
	d := open(t)
	before := stateOf(d.Realm)
	var wait sync.WaitGroup
	all := make([]string, 16)
	for i := range all {
		r := d.Realm.Clone()
		wait.Add(1)
		go func() {
			defer wait.Done()
			one := exchange.Do(r, d.swap("ann", "bob", "read mail"), 11, oauth.NewTape(drawnAll(1, 1)))
			a := d.swap("ann", "bot", "")
			a.Token = one.Access
			all[i] = fmt.Sprintf("%+v %+v %q", one, exchange.Do(r, a, 12, oauth.NewTape(drawnAll(2, 1))), r.F.Rows())
		}()
	}
	wait.Wait()
	same(t, "unlike answers", len(slices.Compact(all)), 1)
	same(t, "the original", stateOf(d.Realm), before)
}

func FuzzR1EndsAtAnything(f *testing.F) {
	f.Add(int(api.AskExchange), "app", "app's", "ann", "bob", "read mail", "https://api", drawn(1), 11, 50)
	f.Add(int(api.AskExchange), "bot", "bot's", "ann4", "", "", "", drawn(2), 99, 1<<30)
	f.Add(int(api.AskExchange), "spa", "", "ann2", "bob3", "a  a", "a b", "", api.MaxTick, 1)
	f.Add(0, "\xff", "a b", "\x00", "..", "\n", "é", "short", -1<<63, 0)
	f.Fuzz(func(t *testing.T, kind int, client, pass, name, actor, scope, audience, draw string, now, ttl int) {
		d := open(t)
		// A name of a token stands for it, another one for itself.
		for _, s := range []*string{&name, &actor} {
			if text, ok := d.texts[*s]; ok {
				*s = text
			}
		}
		a := api.Ask{Kind: kind, Client: client, Secret: pass, Token: name, Actor: actor, Scope: scope, Audience: audience}
		draws := []string{draw, drawn(7), draw, drawn(8)}
		d.asks(a, now, draws...)
		a.Kind = api.AskExchange
		d.asks(a, now, draws...)
		d.C.AccessTtl = ttl
		if reply := d.asks(a, now, draws...); reply.Code == api.OK {
			c, e := token.Read(d.R, reply.Access)
			same(t, "Read", []any{c.Exp - now, e}, []any{reply.Expires, api.OK})
		}
	})
}
