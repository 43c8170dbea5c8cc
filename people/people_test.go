package people_test

import (
	"slices"
	"strconv"
	"strings"
	"testing"

	"seneschal/api"
	"seneschal/people"
)

func TestExamples(t *testing.T) {
	p := people.New()
	is(t, p.AddUser("ann", "a@x"), api.OK)
	is(t, p.AddUser("ann", "a@x"), api.ErrPeopleThere)
	is(t, p.AddUser("Ann", "a@x"), api.ErrPeopleName)
	is(t, p.AddUser("bob", ""), api.ErrPeopleName)
	is(t, p.AddGroup("g"), api.OK)
	is(t, p.AddGroup("h"), api.OK)
	is(t, p.Nest("g", "h"), api.OK)
	is(t, p.Nest("h", "g"), api.ErrPeopleLoop)
	is(t, p.Nest("g", "g"), api.ErrPeopleLoop)
	is(t, p.Join("h", "ann"), api.OK)
	same(t, "In", p.In("ann"), []string{"g", "h"})
	is(t, p.PutRole(api.Role{Name: "r", Scopes: []string{"read"}}), api.OK)
	is(t, p.Give("g", "r"), api.OK)
	same(t, "Holds", p.Holds("ann"), []string{"read"})
	is(t, p.Leave("g", "ann"), api.ErrPeopleNone)
	rows := p.Rows()
	for _, row := range []api.Pair{{Key: "group/h", Value: "1:21:13:ann1:01:0"}, {Key: "user/ann", Value: "3:a@x1:11:1"}} {
		if !slices.Contains(rows, row) {
			t.Errorf("%q; want %q", rows, row)
		}
	}
}

func TestP122New(t *testing.T) {
	w := newTwin(t)
	w.same()
	for _, name := range []string{"", "ann", "u:ann", "c:ann", "A"} {
		lacks(t, w.p, name)
	}
	if w.p.May("u:ann", "u:ann") || w.p.May("", "") {
		t.Error("May")
	}
}

// mixed: names whose order is another one, once a sign stands behind them.
func mixed() []string {
	return []string{"b", "a", "a-", "ab", "a.", "a0", "a_", "-", ".", "_", "0", "z"}
}

func TestP122Told(t *testing.T) {
	w := newTwin(t)
	for _, name := range mixed() {
		w.all(of("AddUser", name, name+"@x"), of("AddGroup", name), putRole(name, "z:"+name), putClient(name))
	}
	for _, name := range []string{"ab", "a", "a-", "z", "b"} {
		for _, other := range []string{"b", "a-", "a", "ab"} {
			w.all(of("Allow", "u:"+name, "c:"+other), of("Allow", "c:"+name, "u:"+other), of("Join", name, other), of("Give", name, other))
		}
		w.all(of("Nest", "0", name))
	}
	w.same()
	same(t, "Mays", w.p.Mays()[:5], []api.May{{Actor: "c:a", Subject: "u:a"}, {Actor: "c:a", Subject: "u:a-"}, {Actor: "c:a", Subject: "u:ab"}, {Actor: "c:a", Subject: "u:b"}, {Actor: "c:a-", Subject: "u:a"}})
	for _, name := range []string{"", "A", "a ", "u:", "c:", "aa", "a\x00", "Z", strings.Repeat("a", 1<<16)} {
		lacks(t, w.p, name)
	}
}

// badNames: texts that may be no names.
func badNames() []string {
	return []string{"", "A", "a b", " a", "a:b", "u:a", "a/b", "a|b", "ä", "a\x00", strings.Repeat("a", 25), strings.Repeat("a", 1<<16)}
}

// nameCalls: all calls that take names alone; those of two names first.
func nameCalls() (two, one []string) {
	return []string{"Join", "Leave", "Nest", "Unnest", "Give", "Take"}, []string{"SetActive", "DropUser", "AddGroup", "DropGroup", "DropRole", "DropClient"}
}

func TestP123Names(t *testing.T) {
	w := some(t)
	two, one := nameCalls()
	for _, bad := range badNames() {
		for _, what := range one {
			w.answers(of(what, bad), api.ErrPeopleName)
		}
		for _, what := range two {
			// Whether the other one is there or not.
			for _, other := range []string{"g", "none", bad} {
				w.answers(of(what, bad, other), api.ErrPeopleName)
				w.answers(of(what, other, bad), api.ErrPeopleName)
			}
		}
		w.answers(of("AddUser", bad, "x"), api.ErrPeopleName)
		w.answers(of("SetMail", bad, "x"), api.ErrPeopleName)
		w.answers(putRole(bad), api.ErrPeopleName)
		w.answers(putClient(bad), api.ErrPeopleName)
	}
}

func TestP123Mails(t *testing.T) {
	w := some(t)
	for _, bad := range []string{"", "a b", " ", "a\n", "ä", "\x7f", "\x00", strings.Repeat("a", 129), strings.Repeat("a", 1<<16)} {
		// Also of one that is there already, or is not there.
		for _, name := range []string{"ann", "dan", "Dan"} {
			w.answers(of("AddUser", name, bad), api.ErrPeopleName)
			w.answers(of("SetMail", name, bad), api.ErrPeopleName)
		}
	}
	w.answers(of("AddUser", strings.Repeat("d", 24), strings.Repeat("~", 128)), api.OK)
	w.answers(of("SetMail", "ann", strings.Repeat("!", 128)), api.OK)
}

func TestP123Principals(t *testing.T) {
	w := some(t)
	for _, bad := range append(badNames(), "ann", "u:", "c:", "x:ann", "u:Ann", "u: ann", ":ann", "u:"+strings.Repeat("a", 25)) {
		if bad == "u:a" {
			continue
		}
		for _, other := range []string{"u:ann", "u:none", bad} {
			for _, what := range []string{"Allow", "Deny"} {
				w.answers(of(what, bad, other), api.ErrPeopleName)
				w.answers(of(what, other, bad), api.ErrPeopleName)
			}
		}
	}
}

func TestP123None(t *testing.T) {
	w := some(t)
	for _, what := range []string{"SetMail", "SetActive", "DropUser", "DropGroup", "DropRole", "DropClient"} {
		w.answers(of(what, "none", "x"), api.ErrPeopleNone)
	}
	two, _ := nameCalls()
	for _, what := range two {
		w.answers(of(what, "none", "none"), api.ErrPeopleNone)
		// One that is there, but as a thing of another kind.
		for _, group := range []string{"none", "ann", "r", "app"} {
			for _, name := range []string{"none", "g", "ann", "r", "app"} {
				w.answers(of(what, group, name), api.ErrPeopleNone)
			}
		}
	}
	// What is no thing of the list's kind, and what is one, but does not stand there.
	for what, names := range map[string][]string{"Join": {"g", "r", "app"}, "Nest": {"ann", "r", "app"}, "Give": {"ann", "g", "app"}, "Leave": {"g", "ann"}, "Unnest": {"ann", "g", "i"}, "Take": {"g", "s", "t"}} {
		for _, name := range names {
			w.answers(of(what, "g", name), api.ErrPeopleNone)
		}
	}
	for _, what := range []string{"Allow", "Deny"} {
		for _, none := range []string{"u:none", "c:none", "u:app", "c:ann", "u:g", "u:r"} {
			w.answers(of(what, none, "u:ann"), api.ErrPeopleNone)
			w.answers(of(what, "c:app", none), api.ErrPeopleNone)
			w.answers(of(what, none, none), api.ErrPeopleNone)
		}
	}
	w.answers(of("Deny", "u:ann", "c:app"), api.ErrPeopleNone)
	w.answers(of("Deny", "c:app", "u:bob"), api.ErrPeopleNone)
}

func TestP123Users(t *testing.T) {
	w := newTwin(t)
	names := numbered("user", 64)
	for _, name := range names {
		w.all(of("AddUser", name, "m"))
	}
	w.answers(of("AddUser", "more", "m"), api.ErrPeopleFull)
	w.answers(of("AddUser", names[63], "m"), api.ErrPeopleThere)
	w.answers(of("AddUser", "More", "m"), api.ErrPeopleName)
	w.answers(setActive(names[5], false), api.OK)
	w.answers(of("AddUser", names[5], "m"), api.ErrPeopleThere)
	w.answers(of("DropUser", names[5]), api.OK)
	w.answers(of("DropUser", names[5]), api.ErrPeopleNone)
	w.answers(of("SetMail", names[5], "m"), api.ErrPeopleNone)
	// The one that comes is another one: active, and of Version 1.
	w.answers(of("AddUser", names[5], "other"), api.OK)
	u, _ := w.p.User(names[5])
	same(t, "User", u, api.User{Name: names[5], Mail: "other", Active: true, Version: 1})
	w.answers(of("AddUser", "more", "m"), api.ErrPeopleFull)
}

func TestP123UsersVersions(t *testing.T) {
	w := newTwin(t)
	w.all(of("AddUser", "ann", "a@x"), of("AddGroup", "g"), putRole("r"))
	version := 1
	for _, c := range []struct {
		call
		changes bool
	}{
		{of("SetMail", "ann", "a@x"), false}, {of("SetMail", "ann", "b@x"), true}, {of("SetMail", "ann", "b@x"), false}, {of("SetMail", "ann", "a@x"), true},
		{setActive("ann", true), false}, {setActive("ann", false), true}, {setActive("ann", false), false},
		{of("SetMail", "ann", "c@x"), true}, {setActive("ann", true), true},
		{of("Join", "g", "ann"), false}, {of("Give", "g", "r"), false}, {of("Allow", "u:ann", "u:ann"), false}, {of("Leave", "g", "ann"), false}, {of("Deny", "u:ann", "u:ann"), false},
		{of("AddGroup", "h"), false}, {of("DropGroup", "g"), false},
	} {
		w.answers(c.call, api.OK)
		if c.changes {
			version++
		}
		if u, _ := w.p.User("ann"); u.Version != version {
			t.Errorf("%+v: Version %d; want %d", c.call, u.Version, version)
		}
	}
}

func TestP123DropUser(t *testing.T) {
	w := some(t)
	w.answers(of("DropUser", "ann"), api.OK)
	same(t, "Mays", w.p.Mays(), []api.May{{Actor: "c:bot", Subject: "c:app"}, {Actor: "u:cid", Subject: "u:cid"}})
	lacks(t, w.p, "ann")
	// She comes back into nothing.
	w.answers(of("AddUser", "ann", "a@x"), api.OK)
	if w.p.In("ann") != nil || w.p.May("c:app", "u:ann") {
		t.Error("ann is where she was")
	}
	w.answers(of("DropUser", "cid"), api.OK)
	// A client of a user's name, a user whose name begins as another one's.
	w.all(putClient("ann"), of("AddUser", "an", "x"), of("Allow", "c:ann", "u:an"), of("Allow", "u:an", "u:bob"), of("Join", "g", "an"))
	w.answers(of("DropUser", "ann"), api.OK)
	w.answers(of("DropUser", "bob"), api.OK)
	same(t, "Mays", w.p.Mays(), []api.May{{Actor: "c:ann", Subject: "u:an"}, {Actor: "c:bot", Subject: "c:app"}})
}

func TestP123Groups(t *testing.T) {
	w := newTwin(t)
	names := numbered("group", 32)
	for _, name := range names {
		w.all(of("AddGroup", name))
	}
	w.answers(of("AddGroup", "more"), api.ErrPeopleFull)
	w.answers(of("AddGroup", names[31]), api.ErrPeopleThere)
	w.answers(of("AddGroup", "More"), api.ErrPeopleName)
	w.answers(of("Nest", names[0], names[1]), api.OK)
	w.answers(of("Nest", names[2], names[0]), api.OK)
	w.answers(of("DropGroup", names[0]), api.OK)
	w.answers(of("DropGroup", names[0]), api.ErrPeopleNone)
	w.answers(of("AddGroup", names[0]), api.OK)
	g, _ := w.p.Group(names[0])
	same(t, "Group", g, api.Group{Name: names[0], Version: 1})
	w.answers(of("AddGroup", "more"), api.ErrPeopleFull)
}

func TestP123DropGroup(t *testing.T) {
	w := some(t)
	w.answers(of("DropGroup", "i"), api.OK)
	same(t, "In", w.p.In("ann"), []string{"g", "h"})
	w.answers(of("DropGroup", "h"), api.OK)
	same(t, "In", w.p.In("ann"), []string(nil))
	w.answers(of("DropGroup", "g"), api.OK)
	w.answers(of("DropGroup", "j"), api.OK)
	w.answers(of("AddGroup", "i"), api.OK)
}

// lists: the calls that put into a list and take out of it, and a name each that may be in it.
func lists() [][3]string {
	return [][3]string{{"Join", "Leave", "ann"}, {"Nest", "Unnest", "h"}, {"Give", "Take", "r"}}
}

func TestP123Lists(t *testing.T) {
	for _, l := range lists() {
		w := newTwin(t)
		w.all(of("AddUser", "ann", "a@x"), of("AddGroup", "g"), of("AddGroup", "h"), putRole("r", "read"))
		for round := range 3 {
			w.answers(of(l[1], "g", l[2]), api.ErrPeopleNone)
			w.answers(of(l[0], "g", l[2]), api.OK)
			w.answers(of(l[0], "g", l[2]), api.ErrPeopleThere)
			w.answers(of(l[1], "g", l[2]), api.OK)
			if g, _ := w.p.Group("g"); g.Version != 3+2*round {
				t.Errorf("%s: Version %d", l[0], g.Version)
			}
		}
		if h, _ := w.p.Group("h"); h.Version != 1 {
			t.Errorf("%s: Version %d of the other", l[0], h.Version)
		}
	}
}

// A list takes all that there are.
func TestP123LongLists(t *testing.T) {
	w := newTwin(t)
	w.all(of("AddGroup", "all"))
	for i := range 64 {
		n := strconv.Itoa(i * 37 % 64)
		w.all(of("AddUser", "u"+n, "x"), of("Join", "all", "u"+n))
		if i < 31 {
			w.all(of("AddGroup", "g"+n), of("Nest", "all", "g"+n), putRole("r"+n, "s:"+n), of("Give", "all", "r"+n), putClient("c"+n))
		}
	}
	w.same()
	loads(t, w.p.Rows())
	for i := range 64 {
		w.all(of("Leave", "all", "u"+strconv.Itoa(i*23%64)))
	}
	w.same()
}

func TestP123DropCountsAsAChange(t *testing.T) {
	for _, l := range lists() {
		drop := map[string]string{"Join": "DropUser", "Nest": "DropGroup", "Give": "DropRole"}[l[0]]
		w := newTwin(t)
		w.all(of("AddUser", "ann", "a@x"), of("AddGroup", "g"), of("AddGroup", "h"), of("AddGroup", "i"), of("AddGroup", "j"), putRole("r"))
		w.all(of(l[0], "g", l[2]), of(l[0], "i", l[2]))
		w.answers(of(drop, l[2]), api.OK)
		for group, want := range map[string]int{"g": 3, "i": 3, "j": 1} {
			if g, _ := w.p.Group(group); g.Version != want {
				t.Errorf("%s: %s has Version %d; want %d", drop, group, g.Version, want)
			}
		}
	}
}

func TestP123Loops(t *testing.T) {
	w := newTwin(t)
	names := numbered("g", 32)
	for i, name := range names {
		w.all(of("AddGroup", name))
		w.answers(of("Nest", name, name), api.ErrPeopleLoop)
		if i > 0 {
			w.all(of("Nest", names[i-1], name))
		}
	}
	for i, name := range names {
		for _, other := range names[:i] {
			w.answers(of("Nest", name, other), api.ErrPeopleLoop)
		}
	}
	w.answers(of("Nest", names[0], names[1]), api.ErrPeopleThere)
	w.answers(of("Nest", names[0], names[31]), api.OK)
	// Once the chain is broken, the other way is free, but for the one that is left.
	w.answers(of("Unnest", names[15], names[16]), api.OK)
	w.answers(of("Nest", names[31], names[0]), api.ErrPeopleLoop)
	w.answers(of("Nest", names[30], names[0]), api.OK)
	w.answers(of("Nest", names[15], names[16]), api.ErrPeopleLoop)
	w.answers(of("Nest", names[0], names[16]), api.ErrPeopleLoop)
}

// A group that is in another one by two ways is no loop, and counts once.
func TestP123TwoWays(t *testing.T) {
	w := newTwin(t)
	w.all(of("AddGroup", "a"), of("AddGroup", "b"), of("AddGroup", "c"), of("AddGroup", "d"), of("AddUser", "ann", "x"))
	w.all(of("Nest", "a", "b"), of("Nest", "a", "c"), of("Nest", "b", "d"), of("Nest", "c", "d"), of("Nest", "a", "d"), of("Nest", "c", "b"))
	w.all(of("Join", "d", "ann"), of("Join", "a", "ann"))
	w.same()
	w.answers(of("Nest", "b", "c"), api.ErrPeopleLoop)
	w.answers(of("Unnest", "c", "d"), api.OK)
	same(t, "In", w.p.In("ann"), []string{"a", "b", "c", "d"})
}

// wrongLists: lists of which 16 right ones are made wrong.
func wrongLists(right []string) [][]string {
	var l [][]string
	l = append(l, append(slices.Clone(right), "zz"))
	for _, at := range []int{0, 1, 7, 15} {
		for _, bad := range []string{"", "a b", " ", "\x7f", "ä", strings.Repeat("z", 129)} {
			wrong := slices.Clone(right)
			wrong[at] = bad
			l = append(l, wrong)
		}
	}
	for _, at := range []int{0, 7, 14} {
		twice, turned := slices.Clone(right), slices.Clone(right)
		twice[at] = twice[at+1]
		turned[at], turned[at+1] = turned[at+1], turned[at]
		l = append(l, twice, turned)
	}
	return append(l, []string{"b", "a"}, []string{"a", "a"}, []string{"a", "c", "b"}, make([]string, 1<<16), []string{""})
}

func TestP123RolesThatMayBe(t *testing.T) {
	w := some(t)
	scopes := numbered("s:", 16)
	w.answers(putRole("r", scopes...), api.OK)
	w.answers(putRole("new", scopes[3:]...), api.OK)
	w.answers(putRole(strings.Repeat("n", 24), "a"+strings.Repeat(":", 31)), api.OK)
	w.answers(putRole("a.0_-", "-", ".", "0", ":", "_", "a", "a:", "ab"), api.OK)
	for _, wrong := range append(wrongLists(scopes), []string{"A"}, []string{"a/b"}, []string{strings.Repeat("s", 33)}) {
		for _, name := range []string{"r", "other"} {
			w.answers(putRole(name, wrong...), api.ErrPeopleName)
		}
	}
}

func TestP123ClientsThatMayBe(t *testing.T) {
	w := some(t)
	scopes, redirects := numbered("s:", 16), numbered("http://x/", 16)
	right := api.Client{Id: "app", Secret: strings.Repeat("0123456789abcdef", 4), Redirects: redirects, Scopes: scopes, Own: true}
	put := func(c api.Client) call { return call{what: "PutClient", client: c} }
	w.answers(put(right), api.OK)
	w.answers(put(api.Client{Id: "app", Redirects: []string{"A", "Z~", strings.Repeat("a", 128)}}), api.OK)
	for _, wrong := range wrongLists(redirects) {
		c := right
		c.Redirects = wrong
		w.answers(put(c), api.ErrPeopleName)
	}
	for _, wrong := range append(wrongLists(scopes), []string{"A"}, []string{strings.Repeat("s", 33)}) {
		c := right
		c.Scopes = wrong
		w.answers(put(c), api.ErrPeopleName)
	}
	for _, wrong := range []string{"0", right.Secret[1:], right.Secret + "0", right.Secret[1:] + "g", right.Secret[1:] + "A", "F" + right.Secret[1:], right.Secret[1:] + " ", right.Secret[1:] + "/", right.Secret[1:] + ":", right.Secret[1:] + "`", strings.Repeat("\x00", 64), strings.Repeat("0", 1<<16)} {
		c := right
		c.Secret = wrong
		w.answers(put(c), api.ErrPeopleName)
	}
}

func TestP123RolesAndClients(t *testing.T) {
	for _, put := range []func(name string) call{func(name string) call { return putRole(name, "x") }, putClient} {
		w := some(t)
		names := numbered("n", 32)
		for _, c := range []string{"r", "s", "t"} {
			w.all(of("DropRole", c))
		}
		w.all(of("DropClient", "app"), of("DropClient", "bot"))
		for _, name := range names {
			w.all(put(name))
		}
		w.answers(put("more"), api.ErrPeopleFull)
		w.answers(put("More"), api.ErrPeopleName)
		w.answers(put(names[31]), api.OK)
		w.answers(putRole(names[0], "y", "z"), api.OK)
		w.answers(call{what: "PutClient", client: api.Client{Id: names[0], Code: true, Swap: true}}, api.OK)
		drop := map[string]string{"PutRole": "DropRole", "PutClient": "DropClient"}[put("x").what]
		w.answers(of(drop, names[9]), api.OK)
		w.answers(of(drop, names[9]), api.ErrPeopleNone)
		w.answers(put("more"), api.OK)
		w.answers(put(names[9]), api.ErrPeopleFull)
	}
}

func TestP123PutAnew(t *testing.T) {
	w := some(t)
	versions := func() (l []int) {
		for _, g := range w.p.Groups() {
			l = append(l, g.Version)
		}
		return l
	}
	before := versions()
	// The groups that have a role, the mays of a client stay.
	w.answers(putRole("r", "new"), api.OK)
	same(t, "Holds", w.p.Holds("ann"), []string{"admin", "new", "read"})
	w.answers(call{what: "PutClient", client: api.Client{Id: "app", Scopes: []string{"x"}, Refresh: true}}, api.OK)
	w.answers(putRole("t", "q"), api.OK)
	if !w.p.May("c:app", "u:ann") {
		t.Error("May")
	}
	if after := versions(); !slices.Equal(before, after) {
		t.Errorf("%d; want %d", after, before)
	}
}

func TestP123DropRoleAndClient(t *testing.T) {
	w := some(t)
	w.answers(of("DropRole", "r"), api.OK)
	same(t, "Holds", w.p.Holds("ann"), []string{"admin", "read"})
	w.answers(putRole("r", "read"), api.OK)
	same(t, "Holds", w.p.Holds("bob"), []string(nil))
	w.all(of("AddUser", "app", "x"), of("Allow", "u:app", "u:ann"), of("Allow", "c:app", "c:app"))
	w.answers(of("DropClient", "app"), api.OK)
	same(t, "Mays", w.p.Mays(), []api.May{{Actor: "u:ann", Subject: "u:bob"}, {Actor: "u:app", Subject: "u:ann"}, {Actor: "u:cid", Subject: "u:cid"}})
	w.answers(putClient("app"), api.OK)
}

func TestP123Mays(t *testing.T) {
	w := some(t)
	w.answers(of("Allow", "c:app", "u:ann"), api.ErrPeopleThere)
	w.answers(of("Deny", "c:app", "u:ann"), api.OK)
	w.answers(of("Deny", "c:app", "u:ann"), api.ErrPeopleNone)
	w.answers(of("Allow", "c:app", "u:ann"), api.OK)
	// A user need not be active.
	w.answers(of("Allow", "u:cid", "u:ann"), api.OK)
	w.answers(of("Allow", "u:ann", "u:cid"), api.OK)
	w.answers(of("Deny", "u:cid", "u:cid"), api.OK)
	for i := range 64 - len(w.p.Mays()) {
		name, other := "n"+strconv.Itoa(i/8), "n"+strconv.Itoa(i%8)
		w.does(of("AddUser", name, "x"))
		w.does(of("AddUser", other, "x"))
		w.all(of("Allow", "u:"+name, "u:"+other))
	}
	w.answers(of("Allow", "c:bot", "u:ann"), api.ErrPeopleFull)
	w.answers(of("Allow", "c:app", "u:ann"), api.ErrPeopleThere)
	w.answers(of("Allow", "c:none", "u:ann"), api.ErrPeopleNone)
	w.answers(of("Allow", "ann", "u:ann"), api.ErrPeopleName)
	w.answers(of("Deny", "c:app", "u:ann"), api.OK)
	w.answers(of("Allow", "c:bot", "u:ann"), api.OK)
	w.answers(of("Allow", "c:app", "u:ann"), api.ErrPeopleFull)
	w.answers(of("DropUser", "n3"), api.OK)
	w.answers(of("Allow", "c:app", "u:ann"), api.OK)
}

func TestP124Active(t *testing.T) {
	w := some(t)
	for principal, want := range map[string]bool{
		"u:ann": true, "u:cid": false, "u:none": false, "c:app": true, "c:none": false, "c:ann": false, "u:app": false,
		"": false, "u:": false, "c:": false, "u": false, "ann": false, "app": false, "x:ann": false, "U:ann": false, "u:ann ": false, "u:u:ann": false, "c:c:app": false, "u:c:app": false, "u:g": false, "u:r": false,
	} {
		if w.p.Active(principal) != want {
			t.Errorf("%q: %t", principal, !want)
		}
	}
	w.all(setActive("cid", true), setActive("ann", false), of("DropUser", "bob"), of("DropClient", "app"))
	for principal, want := range map[string]bool{"u:ann": false, "u:cid": true, "u:bob": false, "c:app": false, "c:bot": true} {
		if w.p.Active(principal) != want {
			t.Errorf("%q: %t", principal, !want)
		}
	}
}

func TestP124May(t *testing.T) {
	w := some(t)
	principals := []string{"u:ann", "u:bob", "u:cid", "c:app", "c:bot", "c:ann", "u:app", "u:none", "ann", "app", "", "u:ann ", " ", "u:ann u:bob", "u:ann|u:bob"}
	allowed := []api.May{{Actor: "c:app", Subject: "u:ann"}, {Actor: "u:ann", Subject: "u:bob"}, {Actor: "c:bot", Subject: "c:app"}, {Actor: "u:cid", Subject: "u:cid"}}
	for _, actor := range principals {
		for _, subject := range principals {
			if want := slices.Contains(allowed, api.May{Actor: actor, Subject: subject}); w.p.May(actor, subject) != want {
				t.Errorf("%q, %q: %t", actor, subject, !want)
			}
		}
	}
	w.all(of("Deny", "u:ann", "u:bob"), setActive("ann", false))
	if w.p.May("u:ann", "u:bob") || !w.p.May("c:app", "u:ann") {
		t.Error("denied, and not denied")
	}
}

func TestP124InAndHolds(t *testing.T) {
	w := some(t)
	same(t, "In", w.p.In("ann"), []string{"g", "h", "i", "j"})
	same(t, "In", w.p.In("bob"), []string{"g", "h"})
	same(t, "In", w.p.In("cid"), []string(nil))
	same(t, "Holds", w.p.Holds("ann"), []string{"admin", "read", "write"})
	same(t, "Holds", w.p.Holds("bob"), []string{"read", "write"})
	same(t, "Holds", w.p.Holds("cid"), []string(nil))
	// One who is not active is in all of them still.
	w.answers(setActive("ann", false), api.OK)
	same(t, "In", w.p.In("ann"), []string{"g", "h", "i", "j"})
	for _, name := range []string{"", "none", "Ann", "u:ann", "g", "r", "app"} {
		if l := w.p.In(name); l != nil {
			t.Errorf("In(%q): %q", name, l)
		}
		if l := w.p.Holds(name); l != nil {
			t.Errorf("Holds(%q): %q", name, l)
		}
	}
	w.answers(of("Unnest", "h", "i"), api.OK)
	same(t, "In", w.p.In("ann"), []string{"g", "h", "i", "j"})
	w.answers(of("Leave", "h", "ann"), api.OK)
	same(t, "In", w.p.In("ann"), []string{"i", "j"})
	same(t, "Holds", w.p.Holds("ann"), []string{"admin", "read", "write"})
	w.answers(of("Take", "j", "r"), api.OK)
	same(t, "Holds", w.p.Holds("ann"), []string{"admin", "read"})
}
