package forest_test

import (
	"fmt"
	"math/rand"
	"slices"
	"strings"
	"testing"

	"seneschal/api"
	"seneschal/forest"
)

func TestExamples(t *testing.T) {
	n := api.Node{Kind: api.Session, Subject: "u:ann", Exp: 9, Secret: "s"}
	with := func(secret string, parent int) api.Node {
		n := n
		n.Secret, n.Parent = secret, parent
		return n
	}
	f := forest.New()
	id, e := f.Plant(n, 0)
	same(t, "Plant", []any{id, e}, []any{1, api.OK})
	id, e = f.Plant(n, 0)
	same(t, "Plant", []any{id, e}, []any{0, api.ErrForestSecret})
	id, e = f.Plant(with("t", 1), 0)
	same(t, "Plant", []any{id, e}, []any{2, api.OK})
	six := with("u", 0)
	six.Kind = 6
	id, e = f.Plant(six, 0)
	same(t, "Plant", []any{id, e}, []any{0, api.ErrForestNode})
	same(t, "Live", []bool{f.Live(2, 8), f.Live(2, 9)}, []bool{true, false})
	same(t, "Path", f.Path(2), []int{2, 1})
	is(t, f.Kill(1), api.OK)
	same(t, "Live", f.Live(2, 0), false)
	id, e = f.Plant(with("x", 2), 0)
	same(t, "Plant", []any{id, e}, []any{0, api.ErrForestDead})

	f = forest.New()
	f.Plant(n, 0)
	is(t, f.Spend(1, 0), api.OK)
	same(t, "Live", f.Live(1, 0), false)
	is(t, f.Spend(1, 0), api.ErrForestSpent)
	got, ok := f.Get(1)
	same(t, "Dead", []bool{got.Dead, got.Spent, ok}, []bool{true, true, true})

	f = forest.New()
	f.Plant(n, 0)
	late := with("t", 1)
	late.Exp = 20
	f.Plant(late, 0)
	same(t, "Prune", []int{f.Prune(9), f.Prune(20)}, []int{0, 2})
}

func TestP131New(t *testing.T) {
	w := newTwin(t)
	w.same()
	same(t, "Nodes", w.f.Nodes(), []api.Node(nil))
	for _, id := range []int{0, 1, -1, 99999999, 1 << 62, -1 << 63} {
		lacks(t, w.f, w.m, id, "s")
		w.refuses(spend(id, 0), api.ErrForestNode)
		w.refuses(kill(id), api.ErrForestNode)
		w.refuses(lift(id, 2), api.ErrForestNode)
		w.refuses(note(id, ""), api.ErrForestNode)
	}
	w.gives(prune(0), 0)
	w.gives(killOf("u:ann"), 0)
}

func TestP131Told(t *testing.T) {
	w := some(t)
	same(t, "Path", w.f.Path(5), []int{5, 4, 2, 1})
	same(t, "Path", w.f.Path(7), []int{7, 6})
	same(t, "Path", w.f.Path(8), []int{8})
	n, ok := w.f.Find("a5")
	same(t, "Find", []any{n, ok}, []any{api.Node{Id: 5, Kind: api.Access, Parent: 4, Subject: "u:ann", Client: "bot", Scope: []string{"read"}, Born: 4, Exp: 54, Actors: []string{"c:bot", "u:bob"}, Level: 1, Secret: "a5"}, true})
	for _, id := range []int{-8, -1, 0, 9, 10, 1 << 40, 1<<63 - 1, -1 << 63} {
		lacks(t, w.f, w.m, id, "a")
	}
	for _, secret := range []string{"", "s", "S1", "s1 ", "s11", "u:ann", "1", strings.Repeat("s1", 1<<16)} {
		lacks(t, w.f, w.m, 0, secret)
	}
}

// What is live then: what lasts, is not spent, and hangs on nothing dead; that what it hangs on lasts, or is unspent, is not asked.
func TestP131Live(t *testing.T) {
	w := some(t)
	for _, c := range []struct {
		id, now int
		want    bool
	}{
		{1, 0, true}, {1, 99, true}, {1, 100, false}, {1, 101, false}, {1, -5, true}, {1, -1 << 63, true}, {1, 1<<63 - 1, false},
		{2, 3, false}, {2, 0, false},
		{3, 52, true}, {3, 53, false}, {4, 202, true}, {4, 203, false}, {5, 53, true}, {5, 54, false},
		{6, 104, true}, {6, 105, false}, {7, 0, false}, {8, 55, true}, {8, 56, false},
		{0, 0, false}, {9, 0, false}, {-1, 0, false},
	} {
		if w.f.Live(c.id, c.now) != c.want {
			t.Errorf("Live(%d, %d): %t", c.id, c.now, !c.want)
		}
	}
	w.all(kill(4))
	same(t, "Live", []bool{w.f.Live(1, 9), w.f.Live(3, 9), w.f.Live(4, 9), w.f.Live(5, 9), w.f.Live(6, 9), w.f.Live(8, 9)}, []bool{true, true, false, false, true, true})
	w.all(kill(1))
	same(t, "Live", []bool{w.f.Live(1, 9), w.f.Live(3, 9), w.f.Live(4, 9), w.f.Live(5, 9), w.f.Live(6, 9), w.f.Live(8, 9)}, []bool{false, false, false, false, true, true})
}

// texts of so many bytes, and of one more.
func sized(n int) (string, string) { return strings.Repeat("a", n), strings.Repeat("a", n+1) }

func TestP132NodesThatMayBe(t *testing.T) {
	w := newTwin(t)
	nodes := []api.Node{full(0, "full"), full(1, "on"), {Kind: api.Ticket, Subject: "c:a", Exp: 1, Secret: "\x00"}}
	for kind := api.Session; kind <= api.Access; kind++ {
		for level := range 4 {
			nodes = append(nodes, api.Node{Kind: kind, Subject: "u:a", Client: "a", Exp: 1, Level: level, Secret: fmt.Sprint(kind, level)})
		}
	}
	// Actors needn't rise, nor be unlike; what became of another one isn't looked at.
	nodes = append(nodes,
		api.Node{Kind: api.Access, Subject: "u:a", Exp: 1, Secret: "act", Actors: []string{"u:b", "c:a", "u:a", "u:a"}},
		api.Node{Kind: api.Session, Subject: "u:a", Exp: 1, Secret: "new", Id: 1 << 62, Dead: true, Spent: true},
		api.Node{Kind: api.Session, Subject: "u:a", Exp: 1, Secret: "odd", Id: -7, Parent: 1},
	)
	for i, n := range nodes {
		w.gives(plant(n, 0), i+1)
		n.Id, n.Dead, n.Spent = i+1, false, false
		got, _ := w.f.Get(i + 1)
		same(t, "Get", got, n)
	}
}

func TestP132NodesThatMayNotBe(t *testing.T) {
	w := some(t)
	_, longName := sized(24)
	_, longText := sized(128)
	_, longScope := sized(32)
	_, longSecret := sized(64)
	_, longData := sized(256)
	for _, spoil := range []func(*api.Node){
		func(n *api.Node) { n.Kind = 0 }, func(n *api.Node) { n.Kind = 6 }, func(n *api.Node) { n.Kind = -1 }, func(n *api.Node) { n.Kind = 1 << 32 },
		func(n *api.Node) { n.Parent = -1 }, func(n *api.Node) { n.Parent = -1 << 63 },
		func(n *api.Node) { n.Subject = "" }, func(n *api.Node) { n.Subject = "ann" }, func(n *api.Node) { n.Subject = "u:" }, func(n *api.Node) { n.Subject = "g:ann" }, func(n *api.Node) { n.Subject = "u:Ann" }, func(n *api.Node) { n.Subject = "c:" + longName },
		func(n *api.Node) { n.Client = "A" }, func(n *api.Node) { n.Client = "c:app" }, func(n *api.Node) { n.Client = " " }, func(n *api.Node) { n.Client = longName },
		func(n *api.Node) { n.Audience = "a b" }, func(n *api.Node) { n.Audience = "\x7f" }, func(n *api.Node) { n.Audience = longText },
		func(n *api.Node) { n.Scope = []string{""} }, func(n *api.Node) { n.Scope = []string{"A"} }, func(n *api.Node) { n.Scope = []string{"a", "b c"} }, func(n *api.Node) { n.Scope = []string{longScope} },
		func(n *api.Node) { n.Scope = []string{"b", "a"} }, func(n *api.Node) { n.Scope = []string{"a", "a"} }, func(n *api.Node) { n.Scope = []string{"a", "c", "b"} }, func(n *api.Node) { n.Scope = append(full(0, "").Scope, "z") },
		func(n *api.Node) { n.Born = -1 }, func(n *api.Node) { n.Born = api.MaxTick + 1 }, func(n *api.Node) { n.Exp = -1 }, func(n *api.Node) { n.Exp = api.MaxTick + 1 }, func(n *api.Node) { n.Exp = 1<<63 - 1 },
		func(n *api.Node) { n.Actors = []string{"ann"} }, func(n *api.Node) { n.Actors = []string{"u:ann", ""} }, func(n *api.Node) { n.Actors = []string{"u:a", "u:b", "u:c", "u:d", "u:e"} },
		func(n *api.Node) { n.Level = -1 }, func(n *api.Node) { n.Level = 4 },
		func(n *api.Node) { n.Secret = "" }, func(n *api.Node) { n.Secret = longSecret }, func(n *api.Node) { n.Data = longData },
	} {
		// Ahead of a secret that is there, and of a parent that is not, or is dead.
		for _, parent := range []int{0, 1, 7, 99} {
			for _, s := range []string{"new", "s1"} {
				n := on(parent, s, 50)
				spoil(&n)
				w.refuses(plant(n, 200), api.ErrForestNode)
			}
		}
	}
}

func TestP132Secret(t *testing.T) {
	w := some(t)
	for _, secret := range []string{"s1", "c2", "a3", "r4", "a5", "s6", "t7", "a8"} {
		// Ahead of a parent that is not there, or is dead, and of Prune, which would take it away.
		for _, parent := range []int{0, 1, 7, 9, 99} {
			for _, now := range []int{0, 500} {
				w.refuses(plant(on(parent, secret, 600), now), api.ErrForestSecret)
			}
		}
	}
	w.all(plant(on(0, "s", 600), 0), plant(on(0, "s1\x00", 600), 0), plant(on(0, "S1", 600), 0))
	// What is gone is there no more.
	w.gives(prune(500), 7)
	w.gives(plant(on(0, "s1", 600), 500), 12)
}

func TestP132Dead(t *testing.T) {
	w := some(t)
	for _, parent := range []int{7, 9, 10, 99, 99999999, 1 << 62, 1<<63 - 1} {
		for _, now := range []int{0, 500} {
			w.refuses(plant(on(parent, "new", 600), now), api.ErrForestDead)
		}
	}
	w.all(kill(2))
	for parent, want := range map[int]api.Errno{1: api.OK, 2: api.ErrForestDead, 3: api.ErrForestDead, 4: api.ErrForestDead, 5: api.ErrForestDead, 6: api.OK, 7: api.ErrForestDead, 8: api.OK} {
		v := w.clone()
		v.answers(plant(on(parent, "new", 600), 0), want)
	}
}

// A parent that is spent, or has expired, is none that is dead.
func TestP132OnWhatIsOver(t *testing.T) {
	w := some(t)
	w.gives(plant(on(2, "new", 600), 4), 9)
	same(t, "Path", w.f.Path(9), []int{9, 2, 1})
	same(t, "Live", w.f.Live(9, 4), true)
	w.gives(plant(on(9, "more", 700), 300), 10)
	same(t, "Path", w.f.Path(10), []int{10, 9, 2, 1})
	w.all(kill(1))
	same(t, "Live", w.f.Live(10, 300), false)

	// Nothing that could be live hangs on it: Prune takes it away ahead of the new one, whose path ends with itself.
	for _, c := range []struct {
		do  []call
		now int
	}{{nil, 9}, {[]call{spend(2, 0)}, 0}} {
		w = newTwin(t)
		w.all(plant(on(0, "s", 900), 0), plant(on(1, "over", 9), 0))
		w.all(c.do...)
		w.gives(plant(on(2, "new", 900), c.now), 3)
		same(t, "Path", w.f.Path(3), []int{3})
		n, _ := w.f.Get(3)
		same(t, "Parent", n.Parent, 2)
		w.refuses(kill(2), api.ErrForestNode)
		w.all(kill(1))
		same(t, "Live", w.f.Live(3, 9), true)
		w.gives(plant(on(3, "on", 900), 9), 4)
		same(t, "Path", w.f.Path(4), []int{4, 3})
	}
}

func TestP132Prunes(t *testing.T) {
	w := some(t)
	w.gives(plant(on(0, "new", 600), 60), 9)
	same(t, "Path", w.f.Path(3), []int(nil))
	same(t, "Path", w.f.Path(4), []int{4, 2, 1})
	w.refuses(kill(7), api.ErrForestNode)
	// One that expires at once is there till the next.
	w.gives(plant(on(0, "old", 60), 60), 10)
	same(t, "Live", w.f.Live(10, 59), true)
	w.gives(plant(on(0, "next", 600), 60), 11)
	same(t, "Path", w.f.Path(10), []int(nil))
}

// fill: nodes of themselves, so many that there are 256, of secrets from that number on.
func (w *twin) fill(from, exp, now int) {
	w.Helper()
	for i := range 256 - len(w.m.nodes) {
		if _, e := w.does(plant(on(0, fmt.Sprint("fill", from+i), exp), now)); e != api.OK {
			w.Fatalf("%d: %d", i, e)
		}
	}
	w.same()
}

func TestP132Full(t *testing.T) {
	w := newTwin(t)
	w.all(plant(on(0, "first", 10), 0), plant(on(1, "second", 20), 0))
	w.fill(0, 30, 0)
	same(t, "nodes", len(w.f.Nodes()), 256)
	for _, parent := range []int{0, 1, 2, 256} {
		w.refuses(plant(on(parent, "new", 600), 9), api.ErrForestFull)
		w.refuses(plant(on(parent, "new", 600), 19), api.ErrForestFull)
	}
	w.refuses(plant(on(0, "first", 600), 9), api.ErrForestSecret)
	w.refuses(plant(on(257, "new", 600), 9), api.ErrForestDead)
	w.gives(prune(9), 0)
	// Both of the path are over: one can be had in their place, and one more.
	w.gives(plant(on(0, "new", 600), 20), 257)
	w.gives(plant(on(0, "more", 600), 20), 258)
	w.refuses(plant(on(0, "most", 600), 20), api.ErrForestFull)
	w.all(kill(100))
	w.gives(plant(on(0, "most", 600), 20), 259)
	w.refuses(plant(on(0, "last", 600), 29), api.ErrForestFull)
	w.gives(plant(on(0, "last", 600), 30), 260)
	same(t, "nodes", len(w.f.Nodes()), 4)
}

func TestP132LastNumber(t *testing.T) {
	for _, next := range []int{99999997, 99999998, 99999999} {
		old := []api.Node{on(0, "a", 10), on(0, "b", 20), on(0, "c", 20)}
		old[0].Id, old[1].Id, old[2].Id = 3, 99999000, 99999001
		old[2].Dead = true
		w := &twin{t, loads(t, rowsOf(next, old...)), &model{old, next}}
		w.same()
		for id := next; id < 99999999; id++ {
			w.gives(plant(on(0, fmt.Sprint(id), 600), 0), id)
		}
		w.same()
		// What Prune took away is gone, though nothing came.
		w.answers(plant(on(0, "new", 600), 10), api.ErrForestFull)
		same(t, "Path", w.f.Path(3), []int(nil))
		same(t, "Path", w.f.Path(99999001), []int(nil))
		w.refuses(plant(on(0, "new", 600), 10), api.ErrForestFull)
		w.refuses(plant(on(0, "new", 600), 19), api.ErrForestFull)
		w.answers(plant(on(0, "new", 600), 600), api.ErrForestFull)
		same(t, "Rows", w.f.Rows(), rowsOf(99999999))
		w.refuses(plant(on(0, "", 600), 10), api.ErrForestNode)
		w.refuses(plant(on(5, "new", 600), 10), api.ErrForestDead)
		loads(t, w.f.Rows())
	}
}

func TestP133Spend(t *testing.T) {
	w := some(t)
	for _, id := range []int{0, -1, 9, 1 << 62} {
		w.refuses(spend(id, 0), api.ErrForestNode)
	}
	w.refuses(spend(1, 100), api.ErrForestDead)
	w.refuses(spend(7, 0), api.ErrForestDead)
	w.answers(spend(1, 99), api.OK)
	same(t, "Live", []bool{w.f.Live(1, 0), w.f.Live(3, 0), w.f.Live(5, 0)}, []bool{false, true, true})
	// For the second time: it is dead, and what hangs on it not live any more, though none of that is dead itself.
	w.answers(spend(4, 300), api.ErrForestDead)
	w.answers(spend(4, 202), api.OK)
	w.answers(spend(4, 300), api.ErrForestSpent)
	same(t, "Live", []bool{w.f.Live(3, 0), w.f.Live(5, 0)}, []bool{true, false})
	n, _ := w.f.Get(5)
	same(t, "Dead", n.Dead, false)
	w.refuses(spend(5, 0), api.ErrForestDead)
	w.refuses(spend(4, 0), api.ErrForestSpent)
	w.answers(spend(2, 0), api.ErrForestSpent)
	w.refuses(spend(3, 0), api.ErrForestDead)
	// Spent, and of a path that is dead.
	w.all(spend(8, 0), kill(8))
	w.refuses(spend(8, 0), api.ErrForestSpent)
}

func TestP133Kill(t *testing.T) {
	w := some(t)
	for _, id := range []int{0, -1, 9, 1 << 62} {
		w.refuses(kill(id), api.ErrForestNode)
	}
	for _, id := range []int{4, 4, 2, 7, 1, 6, 8, 5, 3} {
		w.answers(kill(id), api.OK)
		n, _ := w.f.Get(id)
		same(t, "Dead", []bool{n.Dead, w.f.Live(id, 0)}, []bool{true, false})
	}
	w.gives(prune(0), 8)
}

func TestP133KillOf(t *testing.T) {
	for principal, want := range map[string][]int{
		"u:ann": {1, 2, 3, 4, 5}, "u:bob": {6}, "c:app": {2, 3, 4, 8}, "c:bot": {5},
		"": nil, "u:": nil, "c:": nil, "ann": nil, "app": nil, "u:app": nil, "c:ann": nil, "c:c:app": nil, "C:app": nil, "c:app ": nil, "u:an": nil, "u:anna": nil, "c:ap": nil, strings.Repeat("c:app", 1<<12): nil,
	} {
		w := some(t)
		w.gives(killOf(principal), len(want))
		for _, n := range w.f.Nodes() {
			if n.Dead != (slices.Contains(want, n.Id) || n.Id == 7) {
				t.Errorf("%q: %+v", principal, n)
			}
		}
		w.gives(killOf(principal), 0)
	}
	// How many became so: not those who were, by themselves; those who were by their paths alone.
	w := some(t)
	w.all(kill(2), kill(8))
	w.gives(killOf("c:app"), 2)
	w.gives(killOf("u:ann"), 2)
	w = some(t)
	w.all(plant(api.Node{Kind: api.Access, Subject: "u:app", Client: "ann", Exp: 9, Secret: "x"}, 0), plant(api.Node{Kind: api.Access, Subject: "c:ann", Client: "app", Exp: 9, Secret: "y"}, 0))
	w.gives(killOf("c:ann"), 2)
	w.gives(killOf("u:app"), 0)
}

func TestP133Lift(t *testing.T) {
	w := some(t)
	for id := range 11 {
		for _, level := range []int{0, -1, 4, 1 << 62, -1 << 63} {
			w.refuses(lift(id, level), api.ErrForestNode)
		}
		if id != 1 && id != 6 {
			for level := 1; level <= 3; level++ {
				w.refuses(lift(id, level), api.ErrForestNode)
			}
		}
	}
	w.refuses(lift(-1, 1), api.ErrForestNode)
	level := func(id int) int {
		n, _ := w.f.Get(id)
		return n.Level
	}
	for _, c := range []struct{ id, level, want int }{{1, 1, 1}, {1, 2, 2}, {1, 1, 2}, {1, 2, 2}, {6, 1, 2}, {6, 3, 3}, {6, 2, 3}, {1, 3, 3}, {1, 1, 3}} {
		w.answers(lift(c.id, c.level), api.OK)
		same(t, "Level", level(c.id), c.want)
	}
	// What came of it stays as it was; one that is over can be lifted, too.
	same(t, "Level", level(4), 1)
	w.all(plant(on(0, "none", 5), 0), lift(9, 1), spend(9, 0), lift(9, 2), kill(9), lift(9, 3))
	same(t, "Level", level(9), 3)
}

func TestP133Note(t *testing.T) {
	w := some(t)
	most, more := sized(256)
	for _, id := range []int{0, -1, 9, 1 << 62} {
		w.refuses(note(id, ""), api.ErrForestNode)
		w.refuses(note(id, more), api.ErrForestNode)
	}
	w.refuses(note(1, more), api.ErrForestNode)
	w.refuses(note(1, strings.Repeat("a", 1<<16)), api.ErrForestNode)
	for id := 1; id <= 8; id++ {
		for _, data := range []string{most, "", "\x00\xff", "x"} {
			w.answers(note(id, data), api.OK)
			n, _ := w.f.Get(id)
			same(t, "Data", n.Data, data)
		}
	}
}

func TestP134Prune(t *testing.T) {
	for _, c := range []struct {
		now  int
		left []int
	}{
		// The dead one goes at any time, the spent one never ahead of what hangs on it.
		{-1 << 63, []int{1, 2, 3, 4, 5, 6, 8}}, {0, []int{1, 2, 3, 4, 5, 6, 8}}, {52, []int{1, 2, 3, 4, 5, 6, 8}},
		{53, []int{1, 2, 4, 5, 6, 8}}, {54, []int{1, 2, 4, 6, 8}}, {55, []int{1, 2, 4, 6, 8}}, {56, []int{1, 2, 4, 6}}, {104, []int{1, 2, 4, 6}}, {105, []int{1, 2, 4}},
		{202, []int{1, 2, 4}}, {203, nil}, {1<<63 - 1, nil},
	} {
		w := some(t)
		w.gives(prune(c.now), 8-len(c.left))
		var left []int
		for _, n := range w.f.Nodes() {
			left = append(left, n.Id)
		}
		same(t, fmt.Sprint("Prune ", c.now), left, c.left)
		w.gives(prune(c.now), 0)
		w.gives(prune(0), 0)
		// Numbers aren't given anew.
		w.gives(plant(on(0, "new", 600), c.now), 9)
	}
}

func TestP134PruneOfWhatIsOver(t *testing.T) {
	for _, c := range []struct {
		do   []call
		left []int
	}{
		{[]call{kill(1)}, []int{6, 8}},
		{[]call{kill(2)}, []int{1, 6, 8}},
		{[]call{kill(3)}, []int{1, 2, 4, 5, 6, 8}},
		{[]call{kill(4)}, []int{1, 2, 3, 6, 8}},
		{[]call{spend(4, 0)}, []int{1, 2, 3, 4, 5, 6, 8}},
		{[]call{spend(4, 0), kill(5)}, []int{1, 2, 3, 6, 8}},
		{[]call{spend(4, 0), spend(5, 0), spend(3, 0)}, []int{1, 6, 8}},
		{[]call{spend(1, 0)}, []int{1, 2, 3, 4, 5, 6, 8}},
		{[]call{spend(1, 0), kill(4), kill(3)}, []int{6, 8}},
		{[]call{killOf("c:app"), killOf("u:ann")}, []int{6}},
	} {
		w := some(t)
		w.all(c.do...)
		w.gives(prune(0), 8-len(c.left))
		var left []int
		for _, n := range w.f.Nodes() {
			left = append(left, n.Id)
		}
		same(t, fmt.Sprintf("%+v", c.do), left, c.left)
	}
}

// witness: what was killed, and what hung on that then, and what was spent, is never live again.
type witness struct {
	over map[int]bool
	last int
}

func (x *witness) sees(t testing.TB, f *forest.Forest, before []api.Node, c call, id int, e api.Errno) {
	t.Helper()
	if c.what == "Plant" && e == api.OK {
		if id <= x.last {
			t.Errorf("number %d behind %d", id, x.last)
		}
		x.last = id
	}
	for _, n := range f.Nodes() {
		for _, above := range f.Path(n.Id) {
			if m, _ := f.Get(above); m.Dead {
				x.over[n.Id] = true
			}
		}
		if n.Spent {
			x.over[n.Id] = true
		}
		if x.over[n.Id] && (f.Live(n.Id, 0) || f.Live(n.Id, -1<<63) || f.Live(n.Id, 1000)) {
			t.Errorf("%+v: %d is live again", c, n.Id)
		}
		// Time makes nothing live.
		for now := range 45 {
			if f.Live(n.Id, now+1) && !f.Live(n.Id, now) {
				t.Errorf("%d is live at %d only", n.Id, now+1)
			}
		}
	}
	for _, n := range before {
		if _, ok := f.Get(n.Id); !ok && c.what != "Plant" && c.what != "Prune" {
			t.Errorf("%+v: %d is there no more", c, n.Id)
		}
	}
}

// prunes: a Prune on a clone, behind which Live tells the same, then or later, also behind calls that kill.
func prunes(t testing.TB, f *forest.Forest, r *rand.Rand, now int) {
	t.Helper()
	before, pruned := f.Clone(), f.Clone()
	count := pruned.Prune(now)
	same(t, "how many", len(pruned.Nodes()), len(before.Nodes())-count)
	for _, n := range before.Nodes() {
		if _, ok := pruned.Get(n.Id); !ok && (before.Live(n.Id, now) || before.Live(n.Id, now+r.Intn(50))) {
			t.Errorf("%d was live, and is gone", n.Id)
		}
	}
	for range 6 {
		for _, n := range pruned.Nodes() {
			for _, at := range []int{-1, now, n.Exp - 1, n.Exp} {
				if pruned.Live(n.Id, at) != before.Live(n.Id, at) {
					t.Errorf("Live(%d, %d): %t behind Prune(%d)", n.Id, at, pruned.Live(n.Id, at), now)
				}
			}
		}
		id := r.Intn(60)
		c := anyOf(r, spend(id, now), kill(id), killOf("u:a"), killOf("c:b"))
		c.on(before)
		c.on(pruned)
	}
}

// Calls by chance, of which each is answered as the chapter's words say, and keeps what follows.
func TestP136ManyCalls(t *testing.T) {
	for seed := range 60 {
		r := rand.New(rand.NewSource(int64(seed)))
		w := newTwin(t)
		x := &witness{over: map[int]bool{}}
		now := 0
		for i := range 250 {
			if r.Intn(6) == 0 {
				now += r.Intn(8)
			}
			c, before := anyCall(r, w.m.next, now), w.f.Nodes()
			id, e := w.does(c)
			x.sees(t, w.f, before, c, id, e)
			if i%10 == 0 {
				w.same()
				prunes(t, w.f, r, now+r.Intn(3))
			}
			if r.Intn(20) == 0 {
				w.f = loads(t, w.f.Rows())
			}
			if r.Intn(20) == 0 {
				w.f = w.f.Clone()
			}
		}
		w.same()
	}
}

// R1: forests of which each node hangs on the one ahead of it, and those that hang on one, are gone through soon.
func TestR1DeepAndWide(t *testing.T) {
	for _, parent := range []func(i int) int{func(i int) int { return i }, func(i int) int { return min(i, 1) }} {
		f := forest.New()
		for i := range 256 {
			n := on(parent(i), fmt.Sprint(i), 1000-i)
			id, e := f.Plant(n, 0)
			same(t, "Plant", []any{id, e}, []any{i + 1, api.OK})
		}
		f = loads(t, f.Rows())
		same(t, "Prune", []int{f.Prune(700), len(f.Path(256))}, []int{0, len(f.Clone().Path(256))})
		is(t, f.Kill(1), api.OK)
		same(t, "Live", f.Live(256, 0), false)
		same(t, "Prune", f.Prune(0), 256)
	}
}
