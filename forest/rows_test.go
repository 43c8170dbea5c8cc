package forest_test

import (
	"fmt"
	"math/rand"
	"regexp"
	"slices"
	"strconv"
	"strings"
	"sync"
	"testing"
	"unsafe"

	"seneschal/api"
	"seneschal/forest"
)

// pairs: rows by keys and values by turns.
func pairs(texts ...string) []api.Pair {
	var l []api.Pair
	for i := 0; i < len(texts); i += 2 {
		l = append(l, api.Pair{Key: texts[i], Value: texts[i+1]})
	}
	return l
}

// bare: the row of a node that has little.
const bare = "1:11:03:u:a0:0:1:01:01:91:01:01:01:01:s0:"

func TestP135Rows(t *testing.T) {
	same(t, "Rows of nothing", forest.New().Rows(), pairs("forest", "1:1"))
	same(t, "Rows of nothing", forest.New().Clone().Rows(), pairs("forest", "1:1"))
	f := forest.New()
	f.Plant(api.Node{Kind: api.Session, Subject: "u:a", Exp: 9, Secret: "s"}, 0)
	same(t, "Rows", f.Rows(), pairs("forest", "1:2", "node/00000001", bare))
	same(t, "Rows", some(t).f.Rows(), pairs(
		"forest", "1:9",
		"node/00000001", "1:11:05:u:ann0:0:1:01:13:1001:01:01:01:12:s19:challenge",
		"node/00000002", "1:31:15:u:ann3:app0:1:26:openid4:read1:22:121:01:11:01:12:c23:1:a",
		"node/00000003", "1:51:25:u:ann3:app8:http://x1:26:openid4:read1:32:531:01:01:01:12:a30:",
		"node/00000004", "1:41:25:u:ann3:app0:1:14:read1:33:2031:01:01:01:12:r40:",
		"node/00000005", "1:51:45:u:ann3:bot0:1:14:read1:42:541:01:01:25:c:bot5:u:bob1:12:a50:",
		"node/00000006", "1:11:05:u:bob0:0:1:01:53:1051:01:01:01:22:s60:",
		"node/00000007", "1:21:65:u:bob0:0:1:01:52:251:11:01:01:02:t70:",
		"node/00000008", "1:51:05:c:app3:app0:1:15:admin1:62:561:01:01:01:02:a80:",
	))
	// What was pruned is no row; its number stays given.
	f.Prune(9)
	same(t, "Rows", f.Rows(), pairs("forest", "1:2"))
}

func TestP135LoadOfAll(t *testing.T) {
	var deep []api.Node
	for i := range 256 {
		n := full(i, fmt.Sprint(i))
		n.Id, n.Dead, n.Spent = i+1, i%3 == 0, i%5 == 0
		deep = append(deep, n)
	}
	for _, m := range []*model{newModel(), some(t).m, {nil, 99999999}, {deep, 257}, {deep, 99999999}, {deep[:1], 2}, {deep[100:], 257}, {[]api.Node{deep[3], deep[200]}, 300}} {
		// It takes calls as the one does whose rows they are.
		w := &twin{t, loads(t, m.rows()), m.clone()}
		w.same()
		w.does(plant(on(0, "new", 600), 7))
		w.does(plant(on(4, "more", 600), 7))
		for _, c := range []call{spend(1, 0), spend(101, 0), kill(4), killOf("u:ann"), lift(6, 3), note(8, "x"), prune(60), killOf("c:" + strings.Repeat("c", 24))} {
			w.does(c)
		}
		w.same()
	}
}

func TestP135NextNumber(t *testing.T) {
	for _, next := range []int{1, 2, 9, 10, 99999998, 99999999} {
		f := loads(t, rowsOf(next))
		if id, e := f.Plant(on(0, "s", 9), 0); next < 99999999 && (id != next || e != api.OK) {
			t.Errorf("%d: %d, %d", next, id, e)
		}
	}
	for _, next := range []string{"", "0", "00", "01", "-1", "+1", " 1", "1 ", "1.0", "1e3", "0x1", "1_0", "a", "100000000", "4294967297", "9223372036854775807", "9223372036854775808", "18446744073709551617", strings.Repeat("9", 1000)} {
		unfit(t, pairs("forest", theRow(next)))
		unfit(t, pairs("forest", theRow(next), "node/00000001", bare))
	}
	for _, value := range []string{"", "1", "2", "1:11:1", "1:10:", "1:1 ", "01:1", "2:1", "1:1\n", ":1", "1:", "0:"} {
		unfit(t, pairs("forest", value))
	}
	for _, key := range []string{"", "Forest", "forest/", "forest ", "fores", "forestt", "node/00000000", "node/00000001", "mails"} {
		unfit(t, pairs(key, "1:1"))
		unfit(t, pairs(key, "1:2", "node/00000001", bare))
	}
	unfit(t, nil)
	unfit(t, pairs("node/00000001", bare))
	unfit(t, pairs("node/00000001", bare, "forest", "1:2"))
	unfit(t, pairs("forest", "1:1", "forest", "1:1"))
	unfit(t, pairs("forest", "1:1", "forest", "1:2"))
}

func TestP135BadKeys(t *testing.T) {
	for _, key := range []string{"", "node", "node/", "node/1", "node/01", "node/0000001", "node/000000001", "node/00000000", "node/0000001 ", "node/ 0000001", "node/+0000001", "node/-0000001", "node/0000000a", "node/00000010", "node/00000009", "node/99999999", "node/100000000", "node/18446744073709551617", "node/00000001/", "nodes/00000001", "Node/00000001", "00000001", "node/node/00000001", "forest", "node/0000000\x01", "node/٠١"} {
		unfit(t, pairs("forest", "1:9", key, bare))
	}
	for _, id := range []int{1, 2, 8} {
		loads(t, pairs("forest", "1:9", fmt.Sprintf("node/%08d", id), bare))
	}
	loads(t, pairs("forest", "8:99999999", "node/99999998", bare))
	unfit(t, pairs("forest", "8:99999999", "node/99999999", bare))
	unfit(t, pairs("forest", "8:99999998", "node/99999998", bare))
}

// fields: the texts of bare's row.
func fields() []string {
	return []string{"1", "0", "u:a", "", "", "0", "0", "9", "0", "0", "0", "0", "s", ""}
}

func TestP135BadFields(t *testing.T) {
	ids := func(texts []string) []api.Pair {
		s := ""
		for _, text := range texts {
			s += theRow(text)
		}
		return pairs("forest", "2:50", "node/00000020", s)
	}
	loads(t, ids(fields()))
	tick, above := strconv.Itoa(api.MaxTick), strconv.Itoa(api.MaxTick+1)
	numbers := []string{"", "00", "01", "-1", "+1", " 1", "1 ", "1.0", "0x1", "a", "9223372036854775807", "9223372036854775808", "18446744073709551617"}
	_, longName := sized(24)
	_, longText := sized(128)
	secret, longSecret := sized(64)
	data, longData := sized(256)
	for _, c := range []struct {
		at        int
		good, bad []string
	}{
		{0, []string{"2", "5"}, append(numbers, "0", "6", "9")},
		{1, []string{"1", "19"}, append(numbers, "20", "21", "49", "50", "99999999")},
		{2, []string{"c:a", "u:" + longName[1:]}, []string{"", "a", "u:", "u:A", "x:a", "u:" + longName}},
		{3, []string{"a", longName[1:]}, []string{"A", "c:a", " ", longName}},
		{4, []string{"A", longText[1:]}, []string{" ", "\n", longText}},
		{5, nil, append(numbers, "1", "2", "16", "17")},
		{6, []string{"1", tick}, append(numbers, above)},
		{7, []string{"0", "10", tick}, append(numbers, above)},
		{8, []string{"1"}, append(numbers, "2", "true", "11", "9", "10")},
		{9, []string{"1"}, append(numbers, "2", "true", "11", "9", "10")},
		{10, nil, append(numbers, "1", "4", "5")},
		{11, []string{"1", "2", "3"}, append(numbers, "4", "9")},
		{12, []string{"\x00", secret}, []string{"", longSecret}},
		{13, []string{"\x00", data}, []string{longData}},
	} {
		for _, text := range c.good {
			l := fields()
			l[c.at] = text
			loads(t, ids(l))
		}
		for _, text := range c.bad {
			l := fields()
			l[c.at] = text
			unfit(t, ids(l))
		}
		// A text less, a text more.
		unfit(t, ids(slices.Delete(fields(), c.at, c.at+1)))
		unfit(t, ids(slices.Insert(fields(), c.at, "")))
		unfit(t, ids(slices.Insert(fields(), c.at, "0")))
		unfit(t, ids(fields()[:c.at]))
	}
	unfit(t, ids(append(fields(), "")))
	unfit(t, ids(append(fields(), "0")))
	for _, value := range []string{bare + "x", bare + "0", "0" + bare, " " + bare, strings.ToUpper(bare), bare[1:], bare[:len(bare)-1], strings.Replace(bare, "3:u:a", "03:u:a", 1)} {
		unfit(t, pairs("forest", "1:2", "node/00000001", value))
	}
}

func TestP135BadLists(t *testing.T) {
	n := on(0, "s", 9)
	n.Id = 1
	long, longer := sized(32)
	many := full(0, "").Scope
	for _, c := range []struct {
		scope, actors []string
		fits          bool
	}{
		{[]string{"a", "b:c", "d"}, []string{"u:b", "c:a", "c:a", "u:b"}, true}, {many, nil, true}, {[]string{long}, nil, true},
		{[]string{"b", "a"}, nil, false}, {[]string{"a", "a"}, nil, false}, {[]string{"a", "c", "b"}, nil, false}, {[]string{""}, nil, false}, {[]string{"A"}, nil, false}, {[]string{longer}, nil, false}, {append(many, "z"), nil, false},
		{nil, []string{""}, false}, {nil, []string{"a"}, false}, {nil, []string{"u:a", "u:"}, false}, {nil, []string{"u:a", "u:b", "u:c", "u:d", "u:e"}, false},
	} {
		n.Scope, n.Actors = c.scope, c.actors
		rows := rowsOf(2, n)
		if !c.fits {
			unfit(t, rows)
			continue
		}
		loads(t, rows)
		// One more, one less than there are, or another way to say how many.
		for _, l := range [][]string{c.scope, c.actors} {
			for _, count := range []string{theRow(len(l) + 1), theRow(len(l) - 1), theRow(fmt.Sprint("0", len(l))), theRow(fmt.Sprint("+", len(l)))} {
				if len(l) > 0 {
					things := strings.TrimPrefix(theRow(l), theRow(len(l)))
					unfit(t, pairs("forest", "1:2", "node/00000001", strings.Replace(rows[1].Value, theRow(l), count+things, 1)))
				}
			}
		}
	}
}

func TestP135Order(t *testing.T) {
	rows := some(t).f.Rows()
	for i := range rows {
		for k := range i {
			turned := slices.Clone(rows)
			turned[i], turned[k] = turned[k], turned[i]
			unfit(t, turned)
		}
		unfit(t, slices.Insert(slices.Clone(rows), i, rows[i]))
		unfit(t, append(slices.Clone(rows), rows[i]))
		// A node less is one that was pruned.
		less := slices.Delete(slices.Clone(rows), i, i+1)
		if i == 0 {
			unfit(t, less)
		} else {
			loads(t, less)
		}
	}
	// Two of one number, or of one secret.
	a, b, c := on(0, "a", 9), on(0, "b", 9), on(0, "a", 9)
	a.Id, b.Id, c.Id = 1, 2, 3
	loads(t, rowsOf(4, a, b))
	unfit(t, rowsOf(4, a, b, c))
	unfit(t, rowsOf(4, a, c))
	unfit(t, rowsOf(4, b, a))
	b.Id = 1
	unfit(t, rowsOf(4, a, b))
}

func TestP135TooMany(t *testing.T) {
	var nodes []api.Node
	for i := range 300 {
		n := on(0, fmt.Sprint(i), 9)
		n.Id = i + 1
		nodes = append(nodes, n)
	}
	loads(t, rowsOf(301, nodes[:256]...))
	loads(t, rowsOf(301, nodes[44:]...))
	unfit(t, rowsOf(301, nodes[:257]...))
	unfit(t, rowsOf(301, nodes...))
	unfit(t, rowsOf(256, nodes[:256]...))
}

var (
	keyForm    = regexp.MustCompile(`\Anode/[0-9]{8}\z`)
	numberForm = regexp.MustCompile(`\A(0|[1-9][0-9]{0,14})\z`)
	textHead   = regexp.MustCompile(`\A(0|[1-9][0-9]{0,5}):`)
)

// cutUp: the texts of a row; false, if it is none.
func cutUp(row string) ([]string, bool) {
	var l []string
	for row != "" {
		head := textHead.FindString(row)
		n, _ := strconv.Atoi(strings.TrimSuffix(head, ":"))
		row = row[len(head):]
		if head == "" || n > len(row) {
			return nil, false
		}
		l, row = append(l, row[:n]), row[n:]
	}
	return l, true
}

// modelOf: the forest that rows tell after the chapter's words; nil, if they are those of none.
func modelOf(rows []api.Pair) *model {
	m := newModel()
	for i, row := range rows {
		l, ok := cutUp(row.Value)
		number := func() int {
			if len(l) == 0 || !numberForm.MatchString(l[0]) {
				ok = false
				return 0
			}
			n, _ := strconv.Atoi(l[0])
			l = l[1:]
			return n
		}
		texts := func(n int) []string {
			if n > len(l) {
				ok = false
				return make([]string, n%20+1)
			}
			texts := l[:n:n]
			l = l[n:]
			return texts
		}
		flag := func() bool {
			n := number()
			ok = ok && n < 2
			return n == 1
		}
		if i == 0 {
			m.next = number()
			if !ok || row.Key != "forest" || len(l) > 0 || m.next < 1 || m.next > 99999999 {
				return nil
			}
			continue
		}
		if !keyForm.MatchString(row.Key) {
			return nil
		}
		id, _ := strconv.Atoi(strings.TrimLeft(row.Key[5:], "0"))
		n := api.Node{Id: id, Kind: number(), Parent: number(), Subject: texts(1)[0], Client: texts(1)[0], Audience: texts(1)[0], Scope: texts(number()), Born: number(), Exp: number(), Dead: flag(), Spent: flag(), Actors: texts(number()), Level: number(), Secret: texts(1)[0], Data: texts(1)[0]}
		if !ok || len(l) > 0 || !m.mayBe(n) || id < 1 || id >= m.next || n.Parent >= id || m.by(n.Secret) >= 0 || len(m.nodes) == 256 || len(m.nodes) > 0 && m.nodes[i-2].Id >= id {
			return nil
		}
		m.nodes = append(m.nodes, n)
	}
	if len(rows) == 0 {
		return nil
	}
	return m
}

// asItSays: Load answers what the chapter's words say of rows.
func asItSays(t testing.TB, rows []api.Pair) bool {
	t.Helper()
	m := modelOf(rows)
	if m == nil {
		unfit(t, rows)
		return false
	}
	tells(t, loads(t, rows), m)
	return true
}

// Rows of which one byte is another, is gone, or came anew.
func TestP135OtherBytes(t *testing.T) {
	r := rand.New(rand.NewSource(1))
	base := some(t).f.Rows()
	fits := 0
	for range 30000 {
		rows := slices.Clone(base)
		i := r.Intn(len(rows))
		text := &rows[i].Value
		if r.Intn(5) == 0 {
			text = &rows[i].Key
		}
		at := r.Intn(len(*text))
		b := anyOf(r, "0", "1", "2", "3", "9", ":", "u", "c", "a", "/", "", "-", "\x00", "ann", string((*text)[at])+"1")
		*text = (*text)[:at] + b + (*text)[at+1:]
		if asItSays(t, rows) {
			fits++
		}
	}
	if fits < 1000 {
		t.Errorf("%d were rows", fits)
	}
}

func TestR7Clones(t *testing.T) {
	for seed := range 30 {
		r := rand.New(rand.NewSource(int64(seed)))
		twins := []*twin{some(t)}
		for i := range 200 {
			w := twins[r.Intn(len(twins))]
			w.does(anyCall(r, w.m.next, i/10))
			if len(twins) < 5 && r.Intn(20) == 0 {
				twins = append(twins, w.clone())
			}
		}
		for _, w := range twins {
			w.same()
		}
	}
}

// Each call that changes something, on a clone, leaves the original, and the other way round.
func TestR7EachCall(t *testing.T) {
	for _, c := range []call{plant(on(4, "new", 99), 0), plant(on(0, "new", 99), 90), spend(4, 0), spend(2, 0), kill(1), kill(5), killOf("u:ann"), killOf("c:app"), lift(1, 3), note(4, "x"), prune(0), prune(60)} {
		w := some(t)
		v := w.clone()
		w.does(c)
		w.same()
		v.same()
		v.does(c)
		u := v.clone()
		for _, other := range []call{plant(on(6, "more", 99), 0), kill(6), note(4, "y"), lift(1, 2)} {
			v.does(other)
		}
		w.same()
		v.same()
		u.same()
	}
}

// volatile: a text whose bytes become other ones by spoil, as if somebody else took its memory.
type volatile struct{ all [][]byte }

func (v *volatile) text(s string) string {
	if s == "" {
		return ""
	}
	b := []byte(s)
	v.all = append(v.all, b)
	return unsafe.String(&b[0], len(b))
}

func (v *volatile) texts(l []string) []string {
	c := make([]string, 0, len(l)+2)
	for _, s := range l {
		c = append(c, v.text(s))
	}
	return c
}

func (v *volatile) node(n api.Node) api.Node {
	n.Subject, n.Client, n.Audience, n.Secret, n.Data = v.text(n.Subject), v.text(n.Client), v.text(n.Audience), v.text(n.Secret), v.text(n.Data)
	n.Scope, n.Actors = v.texts(n.Scope), v.texts(n.Actors)
	return n
}

func (v *volatile) spoil() {
	for _, b := range v.all {
		for i := range b {
			b[i] = 'X'
		}
	}
}

// R4: what is handed in may change behind a call.
func TestR4WhatIsHandedInIsNotKept(t *testing.T) {
	w := some(t)
	w.all(plant(full(1, "new"), 7), note(1, "data"), killOf("u:bob"))
	var v volatile
	f := some(t).f
	n := v.node(full(1, "new"))
	id, e := f.Plant(n, 7)
	same(t, "Plant", []any{id, e, f.Note(1, v.text("data")), f.KillOf(v.text("u:bob"))}, []any{9, api.OK, api.OK, 1})
	var rows []api.Pair
	for _, row := range f.Rows() {
		rows = append(rows, api.Pair{Key: v.text(row.Key), Value: v.text(row.Value)})
	}
	g := loads(t, rows)
	v.spoil()
	clear(rows)
	n.Scope[0], n.Actors[1] = "mine", "mine"
	if s := strings.Join(slices.Concat(n.Scope[:18][16:], n.Actors[:6][4:]), ""); s != "" {
		t.Errorf("%q", s)
	}
	tells(t, f, w.m)
	tells(t, g, w.m)
}

// scribble writes into all that a forest told, and into the room behind it.
func scribble(f *forest.Forest) {
	one, _ := f.Get(5)
	two, _ := f.Find("a3")
	nodes, path, rows := f.Nodes(), f.Path(5), f.Rows()
	for _, n := range append(nodes, one, two) {
		for _, l := range [][]string{n.Scope, n.Actors} {
			for i := range l[:cap(l)] {
				if l[:cap(l)][i] == "mine" {
					panic("two lists have one room")
				}
				l[:cap(l)][i] = "mine"
			}
		}
	}
	clear(nodes[:cap(nodes)])
	clear(path[:cap(path)])
	clear(rows[:cap(rows)])
}

func TestR4WhatIsAnsweredIsTheCallers(t *testing.T) {
	w := some(t)
	w.f = loads(t, w.f.Rows())
	v := w.clone()
	for range 3 {
		scribble(w.f)
		w.same()
		v.same()
	}
	w.all(plant(on(5, "new", 99), 0), kill(3), note(4, "x"))
	scribble(v.f)
	w.same()
	v.same()
}

// Two answers have nothing in common, their texts neither.
func TestR4TextsAreNew(t *testing.T) {
	w := some(t)
	w.all(plant(full(0, "all"), 0))
	at := func() []*byte {
		n, _ := w.f.Get(9)
		var l []*byte
		for _, s := range []string{n.Subject, n.Client, n.Audience, n.Scope[0], n.Actors[0], n.Secret, n.Data, w.f.Nodes()[1].Subject, w.f.Clone().Nodes()[2].Secret} {
			l = append(l, unsafe.StringData(s))
		}
		return l
	}
	first := at()
	for i, b := range at() {
		if slices.Contains(first, b) {
			t.Errorf("%d", i)
		}
	}
}

// R5: nothing is kept from one forest to another.
func TestR5NothingIsKept(t *testing.T) {
	var g sync.WaitGroup
	answers := make([]string, 8)
	for i := range answers {
		g.Go(func() {
			r := rand.New(rand.NewSource(int64(i % 2)))
			f := forest.New()
			var l []any
			for k := range 1000 {
				n, e := anyCall(r, k/2+1, k/20).on(f)
				l = append(l, n, e)
			}
			answers[i] = fmt.Sprint(l, f.Rows(), f.Nodes())
		})
	}
	g.Wait()
	for i := range answers {
		if answers[i] != answers[i%2] {
			t.Errorf("%.400s; %.400s", answers[i], answers[i%2])
		}
	}
}

// Those who only ask may do so at the same time, and clones may be changed meanwhile.
func TestR5AskedAtTheSameTime(t *testing.T) {
	w := some(t)
	want := fmt.Sprint(w.f.Rows())
	var g sync.WaitGroup
	for i := range 8 {
		g.Go(func() {
			r := rand.New(rand.NewSource(int64(i)))
			for range 20 {
				f := w.f.Clone()
				for range 20 {
					anyCall(r, 10, 5).on(f)
				}
				if s := fmt.Sprint(w.f.Rows()); s != want || !w.f.Live(5, 9) || !slices.Equal(w.f.Path(5), []int{5, 4, 2, 1}) {
					t.Errorf("%.400s; want %.400s", s, want)
				}
			}
		})
	}
	g.Wait()
}

// FuzzR1EndsAtAnything: rows, and calls with them, of any texts and numbers.
func FuzzR1EndsAtAnything(f *testing.F) {
	f.Add("1:2", "node/00000001", bare, "node/00000002", "", "u:ann", 1, 0, 9)
	f.Add("8:99999999", "node/00000007", bare, "node/99999998", "1:51:25:u:ann3:app0:1:26:openid4:read1:32:531:01:01:01:12:a30:", "c:", 4, 1<<40, -1)
	f.Add("1:0", "forest", "2:-1", "node/", "0:", "\xff", -1, 5, 1<<62)
	f.Fuzz(func(t *testing.T, next, key, value, otherKey, otherValue, text string, a, b, c int) {
		for _, rows := range [][]api.Pair{pairs(next, value), pairs("forest", next), pairs("forest", next, key, value), pairs("forest", next, key, value, otherKey, otherValue), pairs("forest", next, otherKey, otherValue, key, value)} {
			asItSays(t, rows)
		}
		w := some(t)
		for i := range 6 {
			n := api.Node{Kind: a, Parent: b, Subject: text, Client: key, Audience: value, Scope: []string{next, text}[:i%3], Born: b, Exp: c, Actors: []string{text, key, text, text, text}[:i], Level: b, Secret: otherKey, Data: otherValue}
			w.does(plant(n, c))
			n = on(b, otherKey, c)
			n.Client, n.Subject, n.Level, n.Kind = key, "u:ann", i, i
			w.does(plant(n, a))
			lacks(t, w.f, w.m, c, text)
		}
		for _, x := range []call{spend(a, b), spend(b, c), kill(c), lift(a, b), lift(b, a), note(b, text), killOf(text), killOf("c:" + text), prune(c), prune(a)} {
			w.does(x)
		}
		w.same()
		loads(t, w.f.Rows())
	})
}
