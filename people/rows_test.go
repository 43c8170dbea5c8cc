package people_test

import (
	"fmt"
	"math/rand"
	"slices"
	"strconv"
	"strings"
	"sync"
	"testing"
	"unsafe"

	"seneschal/api"
	"seneschal/people"
)

// pairs: rows by keys and values by turns.
func pairs(texts ...string) []api.Pair {
	var l []api.Pair
	for i := 0; i < len(texts); i += 2 {
		l = append(l, api.Pair{Key: texts[i], Value: texts[i+1]})
	}
	return l
}

func TestP125Rows(t *testing.T) {
	w := newTwin(t)
	secret := strings.Repeat("ab", 32)
	w.all(
		of("AddUser", "ann", "a@x"), of("AddUser", "bob", "bob@example"), setActive("bob", false), of("AddGroup", "h"), of("AddGroup", "g"), of("AddGroup", "empty"),
		of("Join", "h", "bob"), of("Join", "h", "ann"), of("Nest", "h", "g"), putRole("r", "a", "b:c"), putRole("none"), of("Give", "h", "r"), of("Give", "h", "none"),
		call{what: "PutClient", client: api.Client{Id: "app", Secret: secret, Redirects: []string{"http://x", "y"}, Scopes: []string{"read"}, Code: true, Refresh: true}},
		call{what: "PutClient", client: api.Client{Id: "bot", Own: true, Swap: true}},
		call{what: "PutClient", client: api.Client{Id: "cat", Swap: true}},
		of("Allow", "c:app", "u:ann"), of("Allow", "c:app", "c:bot"), of("Allow", "u:ann", "u:bob"),
		of("AddUser", "ann-", "x"), of("Allow", "u:ann-", "u:bob"),
	)
	want := pairs(
		"client/app", "64:"+secret+"4:10101:28:http://x1:y1:14:read",
		"client/bot", "0:4:01011:01:0",
		"client/cat", "0:4:00011:01:0",
		"group/empty", "1:11:01:01:0",
		"group/g", "1:11:01:01:0",
		"group/h", "1:61:23:ann3:bob1:11:g1:24:none1:r",
		"may/c:app|c:bot", "",
		"may/c:app|u:ann", "",
		"may/u:ann-|u:bob", "",
		"may/u:ann|u:bob", "",
		"role/none", "1:0",
		"role/r", "1:21:a3:b:c",
		"user/ann", "3:a@x1:11:1",
		"user/ann-", "1:x1:11:1",
		"user/bob", "11:bob@example1:01:2",
	)
	same(t, "Rows", w.p.Rows(), want)
	tells(t, loads(t, want), w.m)
}

func TestP125LoadOfAll(t *testing.T) {
	loads(t, nil)
	for _, w := range []*twin{newTwin(t), some(t)} {
		p := loads(t, w.p.Rows())
		tells(t, p, w.m)
		// It takes calls as the one does whose rows they are.
		w.p = p
		w.answers(of("AddUser", "dan", "d@x"), api.OK)
		w.does(of("Join", "g", "dan"))
		w.does(of("DropUser", "ann"))
		w.does(of("Nest", "i", "g"))
		w.does(of("Allow", "c:app", "u:dan"))
		w.same()
	}
}

func TestP125Versions(t *testing.T) {
	for _, version := range []int{1, 2, 10, 1 << 31, api.MaxTick - 1, api.MaxTick} {
		v := theRow(version)
		p := loads(t, pairs("group/g", v+"1:01:01:0", "user/ann", "3:a@x1:0"+v))
		g, _ := p.Group("g")
		u, _ := p.User("ann")
		if g.Version != version || u.Version != version || u.Active {
			t.Errorf("%d: %v, %v", version, g, u)
		}
		// One more, whatever it was.
		is(t, p.SetActive("ann", true), api.OK)
		is(t, p.Join("g", "ann"), api.OK)
		g, _ = p.Group("g")
		u, _ = p.User("ann")
		if g.Version != version+1 || u.Version != version+1 {
			t.Errorf("%d: %v, %v", version, g, u)
		}
	}
	for _, version := range []string{"", "0", "00", "01", "-1", "+1", " 1", "1 ", "1.0", "a", strconv.Itoa(api.MaxTick + 1), strconv.Itoa(1 << 62), "9223372036854775808", "18446744073709551617", strings.Repeat("9", 1000)} {
		v := theRow(version)
		refuses(t, pairs("group/g", v+"1:01:01:0"))
		refuses(t, pairs("user/ann", "3:a@x1:1"+v))
	}
}

func TestP125BadRows(t *testing.T) {
	ann := []string{"user/ann", "3:a@x1:11:1"}
	nobody := "1:11:01:01:0"
	secret := theRow(strings.Repeat("a", 64))
	for _, row := range [][2]string{
		// No row of theirs, or no name.
		{"", ""}, {"user", ""}, {"user/", "3:a@x1:11:1"}, {"user/", "0:1:01:5"}, {"user/", "0:1:11:1"}, {"users/ann", "3:a@x1:11:1"}, {"User/ann", "3:a@x1:11:1"}, {"x/ann", ""}, {"forest", "1:1"}, {"user/Ann", "3:a@x1:11:1"}, {"user/" + strings.Repeat("a", 25), "3:a@x1:11:1"},
		{"group/", nobody}, {"group/", "1:51:01:01:0"}, {"group/G", nobody}, {"role/", "1:0"}, {"role/R", "1:0"}, {"client/", "0:4:00001:01:0"}, {"client/C", "0:4:00001:01:0"}, {"zz", ""},
		// No row of texts, too few, too many.
		{"user/bob", ""}, {"user/bob", "3:a@x1:1"}, {"user/bob", "3:a@x"}, {"user/bob", "3:a@x1:11:11:1"}, {"user/bob", "3:a@x1:11:10:"}, {"user/bob", "3:a@x1:11:1x"}, {"user/bob", "03:a@x1:11:1"}, {"user/bob", "4:a@x1:11:1"},
		{"group/g", ""}, {"group/g", "1:1"}, {"group/g", "1:11:0"}, {"group/g", "1:11:01:0"}, {"group/g", nobody + "1:0"}, {"group/g", nobody + "0:"}, {"group/g", "1:101:01:01:0"},
		{"role/r", ""}, {"role/r", "1:01:0"}, {"role/r", "1:00:"}, {"role/r", "0"}, {"role/r", "1:0 "},
		{"client/c", ""}, {"client/c", "0:"}, {"client/c", "0:4:0000"}, {"client/c", "0:4:00001:0"}, {"client/c", "0:4:00001:01:01:0"}, {"client/c", "0:4:00001:01:0x"},
		// A mail, a flag, flags, a secret that are none.
		{"user/bob", "0:1:11:1"}, {"user/bob", "3:a x1:11:1"}, {"user/bob", theRow(strings.Repeat("m", 129), 1, 1)}, {"user/bob", "3:a@x1:21:1"}, {"user/bob", "3:a@x0:1:1"}, {"user/bob", "3:a@x2:011:1"}, {"user/bob", "3:a@x2:101:1"}, {"user/bob", "3:a@x4:true1:1"},
		{"client/c", "0:0:1:01:0"}, {"client/c", "0:3:0001:01:0"}, {"client/c", "0:5:000001:01:0"}, {"client/c", "0:4:00021:01:0"}, {"client/c", "0:4:1 001:01:0"}, {"client/c", "0:4:11111:01:01:0"}, {"client/c", "1:a4:00001:01:0"}, {"client/c", strings.ToUpper(secret) + "4:00001:01:0"}, {"client/c", theRow(strings.Repeat("a", 63)) + "4:00001:01:0"}, {"client/c", theRow(strings.Repeat("g", 64)) + "4:00001:01:0"},
		// A number of a list that is none, or another one.
		{"role/r", "1:1"}, {"role/r", "1:21:a"}, {"role/r", "1:11:a1:b"}, {"role/r", "1:01:a"}, {"role/r", "2:011:a"}, {"role/r", "2:-11:a"}, {"role/r", "2:+11:a"}, {"role/r", "0:1:a"}, {"role/r", "1:a"}, {"role/r", "20:184467440737095516171:a"}, {"role/r", "19:92233720368547758071:a"},
		{"group/g", "1:11:13:ann1:01:1"}, {"group/g", "1:11:23:ann1:01:0"}, {"group/g", "1:11:03:ann1:01:0"}, {"group/g", "1:12:013:ann1:01:0"}, {"client/c", "0:4:00001:11:0"}, {"client/c", "0:4:00001:21:a1:01:0"}, {"client/c", "0:4:00001:01:11:01:0"},
		// Lists that don't rise, or have what may not be.
		{"role/r", "1:21:b1:a"}, {"role/r", "1:21:a1:a"}, {"role/r", "1:11:A"}, {"role/r", "1:10:"}, {"role/r", theRow([]string{strings.Repeat("s", 33)})}, {"role/r", theRow(numbered("s", 17))},
		{"client/c", "0:4:00001:21:b1:a1:0"}, {"client/c", "0:4:00001:01:21:b1:a"}, {"client/c", "0:4:00001:11: 1:0"}, {"client/c", "0:4:00001:01:11:A"}, {"client/c", theRow("", "0000", numbered("s", 17), 0)}, {"client/c", theRow("", "0000", 0, numbered("s", 17))},
		{"group/g", "1:11:23:ann3:ann1:01:0"}, {"group/g", "1:11:10:1:01:0"},
		// Those who are not there, and a group in itself.
		{"group/g", "1:11:13:bob1:01:0"}, {"group/g", "1:11:13:Ann1:01:0"}, {"group/g", "1:11:01:11:h1:0"}, {"group/g", "1:11:01:11:g1:0"}, {"group/g", "1:11:01:01:11:r"}, {"group/g", "1:11:01:13:ann1:0"}, {"group/g", "1:11:01:01:13:ann"},
		// Mays with a value, of whom is not there, of no two.
		{"may/u:ann|u:ann", "0:"}, {"may/u:ann|u:ann", "x"}, {"may/u:ann|u:bob", ""}, {"may/u:bob|u:ann", ""}, {"may/c:ann|u:ann", ""}, {"may/u:ann|c:ann", ""}, {"may/u:ann", ""}, {"may/u:ann|", ""}, {"may/|u:ann", ""}, {"may/|", ""}, {"may/", ""}, {"may/u:ann|u:ann|", ""}, {"may/u:ann|u:ann|u:ann", ""}, {"may/u:ann||u:ann", ""}, {"may/u:ann u:ann", ""}, {"may/ann|u:ann", ""}, {"may/u:ann|ann", ""},
	} {
		rows := pairs(append(ann, row[0], row[1])...)
		slices.SortFunc(rows, func(a, b api.Pair) int { return strings.Compare(a.Key, b.Key) })
		refuses(t, rows)
		refuses(t, pairs(row[0], row[1]))
	}
	loads(t, pairs(ann...))
}

func TestP125Loops(t *testing.T) {
	subs := func(l ...string) string { return theRow(1, []string{}, l, []string{}) }
	loads(t, pairs("group/a", subs("b", "c"), "group/b", subs("c"), "group/c", subs()))
	loads(t, pairs("group/a", subs(), "group/b", subs("a"), "group/c", subs("a", "b")))
	refuses(t, pairs("group/a", subs("a")))
	refuses(t, pairs("group/a", subs("b"), "group/b", subs("a")))
	refuses(t, pairs("group/a", subs("b"), "group/b", subs("b")))
	refuses(t, pairs("group/a", subs("b"), "group/b", subs("c"), "group/c", subs("a")))
	refuses(t, pairs("group/a", subs("c"), "group/b", subs("a"), "group/c", subs("b")))
	refuses(t, pairs("group/a", subs("c", "b"), "group/b", subs(), "group/c", subs()))
	refuses(t, pairs("group/a", subs("b", "b"), "group/b", subs()))
}

func TestP125Order(t *testing.T) {
	rows := some(t).p.Rows()
	for i := range rows {
		for k := range i {
			turned := slices.Clone(rows)
			turned[i], turned[k] = turned[k], turned[i]
			refuses(t, turned)
		}
		refuses(t, slices.Insert(slices.Clone(rows), i, rows[i]))
		refuses(t, append(slices.Clone(rows), rows[i]))
	}
	// The mays by their actors are not the rows by their keys.
	rows = pairs("may/u:ann|u:ann", "", "may/u:ann-|u:ann", "", "user/ann", "1:x1:11:1", "user/ann-", "1:x1:11:1")
	refuses(t, rows)
	rows[0], rows[1] = rows[1], rows[0]
	p := loads(t, rows)
	same(t, "Mays", p.Mays(), []api.May{{Actor: "u:ann", Subject: "u:ann"}, {Actor: "u:ann-", Subject: "u:ann"}})
}

// Without one row, they are those of people just if nobody speaks of what it tells.
func TestP125ARowLess(t *testing.T) {
	rows := some(t).p.Rows()
	free := []string{"group/g", "group/j", "may/c:app|u:ann", "may/c:bot|c:app", "may/u:ann|u:bob", "may/u:cid|u:cid", "role/t"}
	for i, row := range rows {
		rest := slices.Delete(slices.Clone(rows), i, i+1)
		if slices.Contains(free, row.Key) {
			loads(t, rest)
		} else {
			refuses(t, rest)
		}
	}
}

func TestP125TooMany(t *testing.T) {
	for _, l := range []struct {
		key, value string
		most       int
	}{{"user/", "1:x1:11:1", 64}, {"group/", "1:11:01:01:0", 32}, {"role/", "1:0", 32}, {"client/", "0:4:00001:01:0", 32}} {
		var rows []api.Pair
		for _, name := range numbered("n", 100) {
			rows = append(rows, api.Pair{Key: l.key + name, Value: l.value})
		}
		loads(t, rows[:l.most])
		refuses(t, rows[:l.most+1])
		refuses(t, rows)
	}
	var mays, users []api.Pair
	for _, name := range numbered("n", 9) {
		users = append(users, api.Pair{Key: "user/" + name, Value: "1:x1:11:1"})
		for _, other := range numbered("n", 9) {
			mays = append(mays, api.Pair{Key: "may/u:" + name + "|u:" + other})
		}
	}
	loads(t, slices.Concat(mays[:64], users))
	refuses(t, slices.Concat(mays[:65], users))
	refuses(t, slices.Concat(mays, users))
	refuses(t, slices.Repeat(pairs("role/r", "1:0"), 1<<16))
	refuses(t, slices.Repeat(pairs("client/c", "0:4:00001:01:0"), 1<<16))
	refuses(t, make([]api.Pair, 1<<16))
}

// Rows of which one byte is another one are refused, or are those of other people.
func TestP125AnotherByte(t *testing.T) {
	rows := some(t).p.Rows()
	for i, row := range rows {
		text := row.Key + "\n" + row.Value
		for at := range len(text) {
			for _, b := range []string{"", "0", "1", "2", "9", "a", "A", ":", "|", "/", "-", " ", "\x00", "\n", "\xff"} {
				for _, other := range []string{text[:at] + b + text[at:], text[:at] + b + text[at+1:]} {
					key, value, _ := strings.Cut(other, "\n")
					changed := slices.Clone(rows)
					changed[i] = api.Pair{Key: key, Value: value}
					if p, e := people.Load(changed); e == api.OK {
						same(t, "Rows", p.Rows(), changed)
						onlyThese(t, p)
					} else if p != nil || e != api.ErrPeopleForm {
						t.Errorf("%q: %v, %d", changed[i], p, e)
					}
				}
			}
		}
	}
}

// onlyThese: what people tell may all be, and speaks of none who is not there.
func onlyThese(t testing.TB, p *people.People) {
	t.Helper()
	m := &model{}
	w := &twin{t, people.New(), m}
	for _, r := range p.Roles() {
		w.all(call{what: "PutRole", role: r})
	}
	for _, c := range p.Clients() {
		w.all(call{what: "PutClient", client: c})
	}
	for _, u := range p.Users() {
		w.all(of("AddUser", u.Name, u.Mail))
	}
	for _, g := range p.Groups() {
		w.all(of("AddGroup", g.Name))
	}
	for _, g := range p.Groups() {
		for _, s := range g.Users {
			w.all(of("Join", g.Name, s))
		}
		for _, s := range g.Subs {
			w.all(of("Nest", g.Name, s))
		}
		for _, s := range g.Roles {
			w.all(of("Give", g.Name, s))
		}
	}
	for _, x := range p.Mays() {
		w.all(of("Allow", x.Actor, x.Subject))
	}
	for _, u := range p.Users() {
		i := m.user(u.Name)
		m.users[i].Active, m.users[i].Version = u.Active, u.Version
		if u.Version < 1 || u.Version > api.MaxTick {
			t.Errorf("%+v", u)
		}
	}
	for _, g := range p.Groups() {
		m.groups[m.group(g.Name)].Version = g.Version
		if g.Version < 1 || g.Version > api.MaxTick {
			t.Errorf("%+v", g)
		}
	}
	tells(t, p, m)
}

// Calls by chance, of which each is answered as the chapter's words say, and keeps what follows.
func TestP126ManyCalls(t *testing.T) {
	for seed := range 60 {
		r := rand.New(rand.NewSource(int64(seed)))
		w := newTwin(t)
		for range 300 {
			c := anyCall(r)
			before := map[string][]string{}
			for _, u := range w.p.Users() {
				before[u.Name] = w.p.Holds(u.Name)
			}
			w.does(c)
			follows(t, w, c, before)
			if r.Intn(20) == 0 {
				w.same()
				w.p = loads(t, w.p.Rows())
			}
			if r.Intn(20) == 0 {
				w.p = w.p.Clone()
			}
		}
		w.same()
	}
}

// follows: no group is in itself, and what users hold behind a call is no more, or no less, than what they held.
func follows(t testing.TB, w *twin, c call, before map[string][]string) {
	t.Helper()
	for _, g := range w.m.groups {
		if w.m.within(g.Name, g.Name) {
			t.Errorf("%s is in itself", g.Name)
		}
	}
	for user, held := range before {
		holds := w.p.Holds(user)
		for _, scope := range append(slices.Clone(held), holds...) {
			was, is := slices.Contains(held, scope), slices.Contains(holds, scope)
			if grows(c.what) && was && !is || shrinks(c.what) && is && !was {
				t.Errorf("%+v: %s held %q, holds %q", c, user, held, holds)
			}
		}
	}
}

func TestR7Clones(t *testing.T) {
	for seed := range 30 {
		r := rand.New(rand.NewSource(int64(seed)))
		twins := []*twin{some(t)}
		for range 150 {
			w := twins[r.Intn(len(twins))]
			w.does(anyCall(r))
			if len(twins) < 5 && r.Intn(20) == 0 {
				twins = append(twins, w.clone())
			}
		}
		for _, w := range twins {
			w.same()
		}
	}
}

// Each call that changes a list, on a clone, leaves the original, and the other way round.
func TestR7EachCall(t *testing.T) {
	for _, c := range []call{
		of("AddUser", "dan", "x"), of("SetMail", "ann", "x"), setActive("ann", false), of("DropUser", "ann"), of("AddGroup", "k"), of("DropGroup", "i"), of("Join", "g", "ann"), of("Leave", "h", "ann"), of("Leave", "h", "bob"), of("Nest", "g", "j"), of("Unnest", "j", "i"),
		of("Give", "g", "s"), of("Give", "h", "t"), of("Take", "j", "r"), putRole("r", "x"), of("DropRole", "r"), putClient("cat"), putClient("app"), of("DropClient", "app"), of("Allow", "c:app", "u:bob"), of("Deny", "c:app", "u:ann"),
	} {
		w := some(t)
		v := w.clone()
		w.all(c)
		w.same()
		v.same()
		v.all(c)
		u := v.clone()
		v.all(of("AddUser", "new", "x"), of("Join", "g", "new"))
		w.same()
		v.same()
		u.same()
	}
}

// R1: who is in all groups by all ways there are is found soon, though the ways are more than can be gone.
func TestR1ManyWays(t *testing.T) {
	p := people.New()
	names := numbered("g", 32)
	is(t, p.AddUser("ann", "x"), api.OK)
	is(t, p.PutRole(api.Role{Name: "r", Scopes: []string{"read"}}), api.OK)
	for i, name := range names {
		is(t, p.AddGroup(name), api.OK)
		for _, above := range names[:i] {
			is(t, p.Nest(above, name), api.OK)
		}
	}
	is(t, p.Join(names[31], "ann"), api.OK)
	is(t, p.Give(names[0], "r"), api.OK)
	for _, q := range []*people.People{p, loads(t, p.Rows())} {
		same(t, "In", q.In("ann"), names)
		same(t, "Holds", q.Holds("ann"), []string{"read"})
		is(t, q.Nest(names[31], names[0]), api.ErrPeopleLoop)
	}
}

// FuzzR1EndsAtAnything: rows, and calls with them, of any texts.
func FuzzR1EndsAtAnything(f *testing.F) {
	f.Add("user/ann", "3:a@x1:11:1", "group/g", "1:21:13:ann1:01:0", "ann", "g")
	f.Add("client/c", "0:4:00001:01:0", "may/c:c|c:c", "", "c:c", "c:c")
	f.Add("role/r", "1:11:a", "role/s", "1:0", "r", "\xff")
	f.Fuzz(func(t *testing.T, key, value, otherKey, otherValue, a, b string) {
		for _, rows := range [][]api.Pair{pairs(key, value), pairs(key, value, otherKey, otherValue), pairs(otherKey, otherValue, key, value)} {
			p, e := people.Load(rows)
			switch {
			case e == api.OK:
				same(t, "Rows", p.Rows(), rows)
				onlyThese(t, p)
			case p != nil || e != api.ErrPeopleForm:
				t.Errorf("%q: %v, %d", rows, p, e)
			}
		}
		w := some(t)
		for i, what := range anyCalls() {
			c := of(what, a, b)
			c.yes = len(a)%2 == 0
			c.role = api.Role{Name: a, Scopes: []string{b, key}[:i%3]}
			c.client = api.Client{Id: b, Secret: otherValue, Redirects: []string{a, b}[:i%3], Scopes: []string{value}[:i%2]}
			w.does(c)
			c.a, c.b = b, a
			w.does(c)
			w.p.Active(a)
			w.p.May(a, b)
			w.p.In(a)
			w.p.Holds(a)
		}
		w.same()
		loads(t, w.p.Rows())
	})
}

// volatile: a text whose bytes become other ones by spoil, as if somebody else took its memory.
type volatile struct{ all [][]byte }

func (v *volatile) text(s string) string {
	if s == "" {
		return ""
	}
	b := []byte(s)
	v.all = append(v.all, b)
	return unsafe.String(&b[0], len(b))
}

func (v *volatile) texts(l ...string) []string {
	c := make([]string, 0, len(l)+2)
	for _, s := range l {
		c = append(c, v.text(s))
	}
	return c
}

func (v *volatile) spoil() {
	for _, b := range v.all {
		for i := range b {
			b[i] = 'X'
		}
	}
}

// R4: what is handed in may change behind a call.
func TestR4WhatIsHandedInIsNotKept(t *testing.T) {
	w := some(t)
	w.all(
		of("AddUser", "dan", "d@x"), of("SetMail", "ann", "new@x"), setActive("bob", false), of("AddGroup", "k"), of("Join", "k", "dan"), of("Join", "k", "ann"), of("Nest", "k", "g"), of("Give", "k", "r"), of("Leave", "h", "ann"),
		putRole("u", "x", "y"), putRole("r", "q"), of("Give", "k", "u"), of("Allow", "u:dan", "u:ann"),
		call{what: "PutClient", client: api.Client{Id: "app", Secret: strings.Repeat("a", 64), Redirects: []string{"p", "q"}, Scopes: []string{"x"}}},
	)
	var v volatile
	p := some(t).p
	scopes, redirects := v.texts("x", "y"), v.texts("p", "q")
	for _, e := range []api.Errno{
		p.AddUser(v.text("dan"), v.text("d@x")), p.SetMail(v.text("ann"), v.text("new@x")), p.SetActive(v.text("bob"), false), p.AddGroup(v.text("k")), p.Join(v.text("k"), v.text("dan")), p.Join(v.text("k"), v.text("ann")), p.Nest(v.text("k"), v.text("g")), p.Give(v.text("k"), v.text("r")), p.Leave(v.text("h"), v.text("ann")),
		p.PutRole(api.Role{Name: v.text("u"), Scopes: scopes}), p.PutRole(api.Role{Name: v.text("r"), Scopes: v.texts("q")}), p.Give(v.text("k"), v.text("u")), p.Allow(v.text("u:dan"), v.text("u:ann")),
		p.PutClient(api.Client{Id: v.text("app"), Secret: v.text(strings.Repeat("a", 64)), Redirects: redirects, Scopes: v.texts("x")}),
	} {
		is(t, e, api.OK)
	}
	var rows []api.Pair
	for _, row := range p.Rows() {
		rows = append(rows, api.Pair{Key: v.text(row.Key), Value: v.text(row.Value)})
	}
	q := loads(t, rows)
	v.spoil()
	clear(rows)
	scopes[0], redirects[1] = "mine", "mine"
	if l := slices.Concat(scopes[:4][2:], redirects[:4][2:]); strings.Join(l, "") != "" {
		t.Errorf("%q", l)
	}
	tells(t, p, w.m)
	tells(t, q, w.m)
}

// scribble writes into all that people told, and into the room behind it.
func scribble(p *people.People) {
	lists := [][]string{p.In("ann"), p.Holds("ann")}
	one, _ := p.Group("h")
	role, _ := p.Role("r")
	client, _ := p.Client("app")
	groups, roles, clients := append(p.Groups(), one), append(p.Roles(), role), append(p.Clients(), client)
	for _, g := range groups {
		lists = append(lists, g.Users, g.Subs, g.Roles)
	}
	for _, r := range roles {
		lists = append(lists, r.Scopes)
	}
	for _, c := range clients {
		lists = append(lists, c.Redirects, c.Scopes)
	}
	for _, l := range lists {
		for i := range l[:cap(l)] {
			if l[:cap(l)][i] == "mine" {
				panic("two lists have one room")
			}
			l[:cap(l)][i] = "mine"
		}
	}
	users, mays, rows := p.Users(), p.Mays(), p.Rows()
	clear(users[:cap(users)])
	clear(mays[:cap(mays)])
	clear(rows[:cap(rows)])
	clear(groups[:cap(groups)])
	clear(roles[:cap(roles)])
	clear(clients[:cap(clients)])
}

func TestR4WhatIsAnsweredIsTheCallers(t *testing.T) {
	w := some(t)
	w.all(call{what: "PutClient", client: api.Client{Id: "app", Redirects: []string{"p", "q"}, Scopes: []string{"x"}}})
	v := w.clone()
	for range 3 {
		scribble(w.p)
		w.same()
		v.same()
	}
	w.all(of("Join", "g", "ann"), of("Leave", "h", "bob"), of("Nest", "g", "j"), of("Give", "g", "t"))
	scribble(v.p)
	w.same()
	v.same()
}

// Two answers have nothing in common, their texts neither.
func TestR4TextsAreNew(t *testing.T) {
	p := some(t).p
	at := func() []*byte {
		u, _ := p.User("ann")
		g, _ := p.Group("h")
		r, _ := p.Role("r")
		c, _ := p.Client("app")
		var l []*byte
		for _, s := range []string{u.Name, u.Mail, g.Name, g.Users[0], g.Subs[0], r.Name, r.Scopes[0], c.Id, p.Mays()[0].Actor, p.Mays()[0].Subject, p.In("ann")[0], p.Holds("ann")[0]} {
			l = append(l, unsafe.StringData(s))
		}
		return l
	}
	first := at()
	for i, b := range at() {
		if slices.Contains(first, b) {
			t.Errorf("%d", i)
		}
	}
}

// R5: the order of the calls that make people isn't told, nor do others count.
func TestR5NothingIsKept(t *testing.T) {
	var g sync.WaitGroup
	answers := make([]string, 8)
	for i := range answers {
		g.Go(func() {
			r := rand.New(rand.NewSource(int64(i % 2)))
			p := people.New()
			var l []api.Errno
			for range 2000 {
				l = append(l, anyCall(r).on(p))
			}
			answers[i] = fmt.Sprint(l, p.Rows(), p.Users(), p.Groups(), p.Roles(), p.Clients(), p.Mays(), p.In("a"), p.Holds("a"))
		})
	}
	g.Wait()
	for i := range answers {
		if answers[i] != answers[i%2] {
			t.Errorf("%.400s; %.400s", answers[i], answers[i%2])
		}
	}
}

// Those who only ask may do so at the same time, and clones may be changed meanwhile.
func TestR5AskedAtTheSameTime(t *testing.T) {
	w := some(t)
	w.same()
	want := fmt.Sprint(w.p.Rows())
	var g sync.WaitGroup
	for i := range 8 {
		g.Go(func() {
			r := rand.New(rand.NewSource(int64(i)))
			for range 20 {
				p := w.p.Clone()
				for range 20 {
					anyCall(r).on(p)
				}
				if s := fmt.Sprint(w.p.Rows()); s != want || !slices.Equal(w.p.In("ann"), []string{"g", "h", "i", "j"}) {
					t.Errorf("%.400s; want %.400s", s, want)
				}
			}
		})
	}
	g.Wait()
}
