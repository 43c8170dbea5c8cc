package login_test

import (
	"fmt"
	"math/rand"
	"regexp"
	"slices"
	"strconv"
	"strings"
	"sync"
	"testing"
	"unsafe"

	"seneschal/api"
	"seneschal/login"
)

// pairs: rows by keys and values by turns.
func pairs(texts ...string) []api.Pair {
	var l []api.Pair
	for i := 0; i < len(texts); i += 2 {
		l = append(l, api.Pair{Key: texts[i], Value: texts[i+1]})
	}
	return l
}

// hashed: 32 bytes that stand for a stretched password; bare: the row's value of who has little.
const (
	hashed = "abcdefghijklmnopqrstuvwxyz:/0123"
	bare   = "16:" + noughts + "32:" + hashed + "0:1:01:01:01:0"
)

func TestP156Rows(t *testing.T) {
	same(t, "Rows of nobody", login.New().Rows(), []api.Pair(nil))
	l := login.New()
	l.Set("ann", noughts, "pw")
	pw := theHash("pw", noughts)
	same(t, "Rows", l.Rows(), pairs("login/ann", "16:"+noughts+"32:"+pw+"0:1:01:01:01:0"))
	xs, ys := strings.Repeat("x", 32), strings.Repeat("\xff", 32)
	same(t, "Rows", some(t).l.Rows(), pairs(
		"login/ann", "16:"+noughts+"32:"+pw+"32:"+rfc+"1:31:01:01:2"+"1:k32:"+xs+"32:"+ys+"1:0"+"1:j32:"+xs+"32:"+ys+"1:7",
		"login/bob", "16:"+noughts+"32:"+theHash("word", noughts)+"0:1:01:31:01:0",
		"login/cat", "16:"+strings.Repeat("\xfe", 16)+"32:"+theHash("pw", strings.Repeat("\xfe", 16))+"0:1:01:03:3101:1"+"1:k32:"+xs+"32:"+ys+"1:0",
		"login/dan", "16:salt of dan  16b"+"32:"+theHash("dan's", "salt of dan  16b")+"16:dan's secret..xy1:01:01:01:0",
	))
}

// Rows rise byte by byte, in whatever order the users came.
func TestP156RowsRise(t *testing.T) {
	users := []string{"-", "--", "-a", ".", "..", "0", "00", "9", "_", "_.", "a", "a-", "a.", "a0", "a_", "aa", "b", "z", strings.Repeat("z", 24)}
	for seed := range 20 {
		w := newTwin(t)
		for _, i := range rand.New(rand.NewSource(int64(seed))).Perm(len(users)) {
			w.does(set(users[i], noughts, "pw"))
		}
		w.same()
		for i, row := range w.l.Rows() {
			same(t, "key", row.Key, "login/"+users[i])
			same(t, "user", w.l.All()[i].User, users[i])
		}
		loads(t, w.l.Rows())
	}
}

func TestP156LoadOfAll(t *testing.T) {
	w := newTwin(t)
	for i := range 64 {
		for _, c := range full(fmt.Sprint(i)) {
			w.does(c)
		}
	}
	odd := &model{[]api.Credential{
		{User: "a", Salt: rfc[:16], Hash: hashed, Otp: rfc[:16], Step: 1 << 41, Fails: 4, Until: 1 << 41, Keys: []api.Key{keyOf("k", 1)}},
		{User: "b", Salt: rfc[:16], Hash: strings.Repeat("\x00", 32), Step: 7, Fails: 1, Until: 5},
	}}
	for _, m := range []*model{{}, w.m, some(t).m, odd} {
		// It takes calls as the one does whose rows they are.
		w := &twin{t, loads(t, m.rows()), m.clone()}
		w.same()
		for _, user := range []string{"ann", "cat", "a", "b", "7"} {
			for _, c := range []call{check(user, "pw", 5), check(user, "no", 310), code(user, theCode(rfc, 3), 90), addKey(user, keyOf("new", 0)), addKey(user, keyOf("k", 0)), count(user, "k", 4), check(user, "no", 1<<40), enrol(user, rfc), code(user, theCode(rfc, 3), 90), set(user, noughts, "new"), drop("b")} {
				w.does(c)
			}
		}
		w.same()
	}
}

func TestP156BadKeys(t *testing.T) {
	for _, user := range []string{"a", "ann", "-", ".", "_", "0", "a.b-c_d", strings.Repeat("z", 24), "login"} {
		loads(t, pairs("login/"+user, bare))
	}
	for _, key := range []string{"", "login", "login/", "Login/ann", "login/Ann", "login /ann", "login/ ann", "login/ann ", "login/ann/", "login//ann", "login/login/ann", "/ann", "ann", "logins/ann", "user/ann", "login/é", "login/\x00", "login/" + strings.Repeat("z", 25), "login/" + strings.Repeat("z", longest), "forest"} {
		unfit(t, pairs(key, bare))
		unfit(t, pairs("login/0", bare, key, bare))
		unfit(t, pairs(key, bare, "login/zoe", bare))
	}
}

// fields: the texts of a row with two passkeys.
func fields() []string {
	return []string{noughts, hashed, rfc, "2", "1", "9", "2", "k", rfc, hashed, "3", "j", hashed, rfc, "0"}
}

func oneRow(texts []string) []api.Pair {
	s := ""
	for _, text := range texts {
		s += theRow(text)
	}
	return pairs("login/ann", s)
}

func TestP156BadFields(t *testing.T) {
	loads(t, oneRow(fields()))
	most, above := strconv.Itoa(1<<41), strconv.Itoa(1<<41+1)
	numbers := []string{"", "00", "01", "-0", "-1", "+1", " 1", "1 ", "1.0", "0x1", "a", "1_0", "9223372036854775807", "9223372036854775808", "18446744073709551617", "18446744073709551616", strings.Repeat("9", 1000)}
	secret, longSecret := sized(64)
	id, longId := sized(86)
	ids := []string{"\x00", "=", "l", "K", id}
	halves := []string{"", rfc[1:], rfc + "0", rfc + rfc, strings.Repeat("x", longest)}
	counts := append(numbers, "4294967296", "4294967297", "1099511627776")
	for at, c := range []struct{ good, bad []string }{
		{[]string{rfc[:16], strings.Repeat("\xff", 16)}, notSalts},
		{[]string{rfc, strings.Repeat("\x00", 32)}, halves},
		{[]string{"", rfc[:16], secret, strings.Repeat("\x00", 17)}, []string{"s", rfc[:15], longSecret, strings.Repeat("s", longest)}},
		{[]string{"0", "1", most}, append(numbers, above)},
		{[]string{"0", "2", "3", "4"}, append(numbers, "5", "6", "9")},
		{[]string{"0", "1", most}, append(numbers, above)},
		{nil, append(numbers, "0", "1", "3", "4", "5")},
		{ids, []string{"", longId, "j", strings.Repeat("k", longest)}},
		{[]string{hashed, strings.Repeat("\x00", 32)}, halves},
		{[]string{rfc, strings.Repeat("\x00", 32)}, halves},
		{[]string{"0", "1", "4294967295"}, counts},
		{ids, []string{"", longId, "k", strings.Repeat("k", longest)}},
		{[]string{rfc, strings.Repeat("\x00", 32)}, halves},
		{[]string{hashed, strings.Repeat("\x00", 32)}, halves},
		{[]string{"1", "4294967295"}, counts},
	} {
		for _, text := range c.good {
			l := fields()
			l[at] = text
			loads(t, oneRow(l))
		}
		for _, text := range c.bad {
			l := fields()
			l[at] = text
			unfit(t, oneRow(l))
		}
		// A text less, a text more.
		unfit(t, oneRow(slices.Delete(fields(), at, at+1)))
		unfit(t, oneRow(slices.Insert(fields(), at, "")))
		unfit(t, oneRow(slices.Insert(fields(), at, "0")))
		unfit(t, oneRow(fields()[:at]))
	}
	unfit(t, oneRow(append(fields(), "")))
	unfit(t, oneRow(append(fields(), "0")))
	unfit(t, oneRow(append(fields(), "l", rfc, rfc, "0")))
}

func TestP156BadValues(t *testing.T) {
	loads(t, pairs("login/ann", bare))
	for _, value := range []string{"", "0:", "x", bare + "x", bare + "0", bare + "0:", "0" + bare, " " + bare, bare[1:], bare[:len(bare)-1], bare[:len(bare)-3], bare + bare, strings.Replace(bare, "16:", "016:", 1), strings.Replace(bare, "0:", ":", 1), strings.Replace(bare, "32:", "33:", 1), strings.Replace(bare, "32:", "-32:", 1)} {
		unfit(t, pairs("login/ann", value))
	}
}

// keyed: the row of who has passkeys of these Ids, of which as many are told.
func keyed(told int, ids ...string) []api.Pair {
	texts := append(fields()[:6], strconv.Itoa(told))
	for _, id := range ids {
		texts = append(texts, id, rfc, rfc, "0")
	}
	return oneRow(texts)
}

func TestP156BadPasskeys(t *testing.T) {
	ids := []string{"d", "c", "b", "a", "e", "f"}
	for n := range len(ids) {
		for told := -1; told <= 6; told++ {
			if told == n && n <= 4 {
				loads(t, keyed(told, ids[:n]...))
			} else {
				unfit(t, keyed(told, ids[:n]...))
			}
		}
	}
	for _, ids := range [][]string{{"a", "a"}, {"a", "b", "a"}, {"a", "b", "b"}, {"a", "b", "c", "a"}, {"b", "a", "a", "c"}} {
		unfit(t, keyed(len(ids), ids...))
	}
	// Two users may have one of the same Id.
	loads(t, pairs("login/ann", keyed(1, "a")[0].Value, "login/bob", keyed(1, "a")[0].Value))
	for _, told := range []int{1 << 30, 1<<63 - 1, -1 << 63} {
		unfit(t, keyed(told, "a", "b"))
	}
}

func TestP156Order(t *testing.T) {
	rows := some(t).l.Rows()
	for i := range rows {
		for k := range i {
			turned := slices.Clone(rows)
			turned[i], turned[k] = turned[k], turned[i]
			unfit(t, turned)
		}
		unfit(t, slices.Insert(slices.Clone(rows), i, rows[i]))
		unfit(t, append(slices.Clone(rows), rows[i]))
		// Of each user there is but one.
		twice := slices.Insert(slices.Clone(rows), i+1, api.Pair{Key: rows[i].Key, Value: bare})
		unfit(t, twice)
		loads(t, slices.Delete(slices.Clone(rows), i, i+1))
	}
	loads(t, pairs("login/a", bare, "login/a-", bare, "login/a.", bare, "login/a0", bare, "login/a_", bare, "login/aa", bare, "login/b", bare))
	unfit(t, pairs("login/a.", bare, "login/a-", bare))
	unfit(t, pairs("login/aa", bare, "login/a", bare))
}

func TestP156TooMany(t *testing.T) {
	var rows []api.Pair
	for i := range 70 {
		rows = append(rows, api.Pair{Key: fmt.Sprintf("login/%02d", i), Value: bare})
	}
	loads(t, nil)
	loads(t, []api.Pair{})
	loads(t, rows[:1])
	for _, n := range []int{63, 64} {
		l := loads(t, rows[:n])
		want := api.ErrLoginFull
		if n == 63 {
			want = api.OK
		}
		is(t, l.Set("ann", noughts, "pw"), want)
	}
	unfit(t, rows[:65])
	unfit(t, rows)
	unfit(t, make([]api.Pair, 1))
	unfit(t, make([]api.Pair, longest))
}

var (
	rowKey     = regexp.MustCompile(`\Alogin/([a-z0-9._-]{1,24})\z`)
	numberForm = regexp.MustCompile(`\A(0|[1-9][0-9]{0,14})\z`)
	textHead   = regexp.MustCompile(`\A(0|[1-9][0-9]{0,5}):`)
)

// cutUp: the texts of a row; false, if it is none.
func cutUp(row string) ([]string, bool) {
	var l []string
	for row != "" {
		head := textHead.FindString(row)
		n, _ := strconv.Atoi(strings.TrimSuffix(head, ":"))
		row = row[len(head):]
		if head == "" || n > len(row) {
			return nil, false
		}
		l, row = append(l, row[:n]), row[n:]
	}
	return l, true
}

// credentialOf: what the texts of a row tell after the chapter's words; false, if they tell none.
func credentialOf(l []string) (api.Credential, bool) {
	if len(l) < 7 || len(l)%4 != 3 || len(l) > 7+4*4 || l[6] != fmt.Sprint(len(l)/4-1) {
		return api.Credential{}, false
	}
	ok := true
	number := func(s string) int {
		ok = ok && numberForm.MatchString(s)
		n, _ := strconv.Atoi(s)
		return n
	}
	c := api.Credential{Salt: l[0], Hash: l[1], Otp: l[2], Step: number(l[3]), Fails: number(l[4]), Until: number(l[5])}
	ids := map[string]bool{}
	for i := 7; i < len(l); i += 4 {
		k := api.Key{Id: l[i], X: l[i+1], Y: l[i+2], Count: number(l[i+3])}
		ok = ok && keyMayBe(k) && !ids[k.Id]
		ids[k.Id] = true
		c.Keys = append(c.Keys, k)
	}
	ok = ok && len(c.Salt) == 16 && len(c.Hash) == 32 && (c.Otp == "" || isIn(len(c.Otp), 16, 64))
	return c, ok && isIn(c.Step, 0, 1<<41) && isIn(c.Fails, 0, 4) && isIn(c.Until, 0, 1<<41)
}

// modelOf: the login that rows tell after the chapter's words; nil, if they are those of none.
func modelOf(rows []api.Pair) *model {
	m := &model{}
	last := ""
	for _, row := range rows {
		user := rowKey.FindStringSubmatch(row.Key)
		texts, cut := cutUp(row.Value)
		c, ok := credentialOf(texts)
		if user == nil || !cut || !ok || user[1] <= last || len(m.all) == 64 {
			return nil
		}
		c.User, last = user[1], user[1]
		m.all = append(m.all, c)
	}
	return m
}

// asItSays: Load answers what the chapter's words say of rows.
func asItSays(t testing.TB, rows []api.Pair) bool {
	t.Helper()
	m := modelOf(rows)
	if m == nil {
		unfit(t, rows)
		return false
	}
	tells(t, loads(t, rows), m)
	return true
}

// Rows of which one byte is another, is gone, or came anew.
func TestP156OtherBytes(t *testing.T) {
	r := rand.New(rand.NewSource(1))
	base := some(t).l.Rows()
	fits := 0
	for range 20000 {
		rows := slices.Clone(base)
		i := r.Intn(len(rows))
		text := &rows[i].Value
		if r.Intn(5) == 0 {
			text = &rows[i].Key
		}
		at := r.Intn(len(*text))
		b := anyOf(r, "0", "1", "2", "3", "9", ":", "k", "c", "a", "/", "", "-", "\x00", "ann", string((*text)[at])+"1")
		*text = (*text)[:at] + b + (*text)[at+1:]
		if asItSays(t, rows) {
			fits++
		}
	}
	if fits < 1000 {
		t.Errorf("%d were rows", fits)
	}
}

func TestR7Clones(t *testing.T) {
	for seed := range 30 {
		r := rand.New(rand.NewSource(int64(seed)))
		twins := []*twin{some(t)}
		for i := range 200 {
			w := twins[r.Intn(len(twins))]
			w.does(anyCall(r, 50+i*5))
			if len(twins) < 5 && r.Intn(20) == 0 {
				twins = append(twins, w.clone())
			}
		}
		for _, w := range twins {
			w.same()
		}
	}
}

// Each call that changes something, on a clone, leaves the original, and the other way round.
func TestR7EachCall(t *testing.T) {
	for _, c := range []call{set("ann", noughts, "new"), set("eve", noughts, "new"), drop("ann"), check("ann", "no", 9), check("bob", "word", 9), check("cat", "pw", 310), enrol("ann", "sixteen bytes 16"), enrol("bob", rfc), code("ann", theCode(rfc, 3), 60), addKey("ann", keyOf("new", 0)), addKey("bob", keyOf("new", 0)), count("ann", "j", 8), count("cat", "k", 1)} {
		w := some(t)
		v := w.clone()
		w.does(c)
		w.same()
		v.same()
		v.does(c)
		u := v.clone()
		for _, other := range []call{set("fay", noughts, "pw"), addKey("ann", keyOf("more", 0)), count("ann", "j", 99), check("cat", "pw", 400), drop("dan")} {
			v.does(other)
		}
		w.same()
		v.same()
		u.same()
	}
}

// volatile: a text whose bytes become other ones by spoil, as if somebody else took its memory.
type volatile struct{ all [][]byte }

func (v *volatile) text(s string) string {
	if s == "" {
		return ""
	}
	b := []byte(s)
	v.all = append(v.all, b)
	return unsafe.String(&b[0], len(b))
}

func (v *volatile) call(c call) call {
	k := api.Key{Id: v.text(c.key.Id), X: v.text(c.key.X), Y: v.text(c.key.Y), Count: c.key.Count}
	return call{what: c.what, user: v.text(c.user), salt: v.text(c.salt), text: v.text(c.text), key: k, n: c.n}
}

func (v *volatile) spoil() {
	for _, b := range v.all {
		for i := range b {
			b[i] = 'X'
		}
	}
}

// R4: what is handed in may change behind a call.
func TestR4WhatIsHandedInIsNotKept(t *testing.T) {
	var v volatile
	w := some(t)
	for _, c := range []call{set("eve", noughts, "new"), set("ann", "another salt 16b", "new"), check("ann", "no", 9), enrol("bob", rfc), code("bob", theCode(rfc, 1), 30), addKey("bob", keyOf("new", 0)), count("bob", "new", 4), check("ann", "new", 9), set("bob", noughts, "word"), set("eve", noughts, "word")} {
		same(t, c.what, v.call(c).on(w.l), c.on(w.m))
		v.spoil()
		w.same()
	}
	var rows []api.Pair
	for _, row := range w.l.Rows() {
		rows = append(rows, api.Pair{Key: v.text(row.Key), Value: v.text(row.Value)})
	}
	w.l = loads(t, rows)
	v.spoil()
	clear(rows)
	w.same()
	w.all(drop("bob"), check("eve", "word", 0))
}

// scribble writes into all that a login told, and into the room behind it.
func scribble(l *login.Login) {
	one, _ := l.Get("ann")
	all, rows := l.All(), l.Rows()
	for _, c := range append(all, one) {
		for i := range c.Keys[:cap(c.Keys)] {
			if c.Keys[:cap(c.Keys)][i].Id == "mine" {
				panic("two lists have one room")
			}
			c.Keys[:cap(c.Keys)][i] = keyOf("mine", 5)
		}
	}
	clear(all[:cap(all)])
	clear(rows[:cap(rows)])
}

func TestR4WhatIsAnsweredIsTheCallers(t *testing.T) {
	w := some(t)
	w.all(addKey("ann", keyOf("a", 0)))
	w.l = loads(t, w.l.Rows())
	v := w.clone()
	for range 3 {
		scribble(w.l)
		w.same()
		v.same()
	}
	w.all(addKey("ann", keyOf("b", 0)), count("ann", "j", 9), set("ann", noughts, "new"))
	scribble(v.l)
	w.same()
	v.same()
}

// Two answers have nothing in common, their texts neither.
func TestR4TextsAreNew(t *testing.T) {
	w := some(t)
	at := func() []*byte {
		c, _ := w.l.Get("ann")
		k, _ := w.l.Key("ann", "k")
		all, cloned := w.l.All(), w.l.Clone().All()
		var l []*byte
		for _, s := range []string{c.User, c.Salt, c.Hash, c.Otp, c.Keys[0].Id, c.Keys[0].X, c.Keys[1].Y, k.Id, k.X, k.Y, all[0].User, all[1].Salt, all[2].Keys[0].X, cloned[0].Salt} {
			l = append(l, unsafe.StringData(s))
		}
		return l
	}
	first := at()
	for i, b := range at() {
		if slices.Contains(first, b) {
			t.Errorf("%d", i)
		}
	}
}

// R5: nothing is kept from one login to another.
func TestR5NothingIsKept(t *testing.T) {
	var g sync.WaitGroup
	answers := make([]string, 8)
	for i := range answers {
		g.Go(func() {
			r := rand.New(rand.NewSource(int64(i % 2)))
			l := login.New()
			var told []any
			for k := range 1000 {
				told = append(told, anyCall(r, k*5).on(l))
			}
			answers[i] = fmt.Sprint(told, l.Rows(), l.All())
		})
	}
	g.Wait()
	for i := range answers {
		if answers[i] != answers[i%2] {
			t.Errorf("%.400s; %.400s", answers[i], answers[i%2])
		}
	}
}

// Those who only ask may do so at the same time, and clones may be changed meanwhile.
func TestR5AskedAtTheSameTime(t *testing.T) {
	w := some(t)
	want := fmt.Sprint(w.l.Rows(), w.l.All())
	var g sync.WaitGroup
	for i := range 8 {
		g.Go(func() {
			r := rand.New(rand.NewSource(int64(i)))
			for range 20 {
				l := w.l.Clone()
				for range 20 {
					anyCall(r, 100).on(l)
				}
				k, ok := w.l.Key("ann", "j")
				if s := fmt.Sprint(w.l.Rows(), w.l.All()); s != want || !ok || k.Count != 7 {
					t.Errorf("%.400s; want %.400s", s, want)
				}
			}
		})
	}
	g.Wait()
}

// FuzzR1EndsAtAnything: rows, and calls with them, of any texts and numbers.
func FuzzR1EndsAtAnything(f *testing.F) {
	f.Add("login/ann", bare, "login/bob", keyed(1, "a")[0].Value, "ann", "pw", 0, 9)
	f.Add("login/", "0:", "ann", bare, "", "", -1, 1<<40)
	f.Add("ann", strings.Replace(bare, "1:01:01:01:0", "13:21990232555521:413:21990232555521:0", 1), "login/\xff", "7:", "cat", rfc, 1<<62, -1<<63)
	f.Fuzz(func(t *testing.T, key, value, otherKey, otherValue, user, text string, a, b int) {
		for _, rows := range [][]api.Pair{pairs(key, value), pairs("login/ann", value), pairs(key, value, otherKey, otherValue), pairs(otherKey, bare, key, value), pairs(key, bare, key, otherValue)} {
			asItSays(t, rows)
		}
		w := some(t)
		for _, u := range []string{user, key, "ann", "cat", "bob"} {
			salt := (text + noughts)[:16]
			for _, c := range []call{
				check(u, text, a), code(u, text, a), code(u, theCode(rfc, max(0, a/30)), a), count(u, "k", a), count(u, "j", b), addKey(u, api.Key{Id: text, X: key, Y: value, Count: a}), addKey(u, keyOf(text, b)), count(u, text, a),
				check(u, "no", b), check(u, "pw", b), set(u, key, text), set(u, salt, text), check(u, text, a), enrol(u, text), enrol(u, value), code(u, theCode(value, b/30), b), code(u, key, b), drop(key),
			} {
				w.does(c)
			}
			lacks(t, w.l, w.m, u, text)
		}
		w.same()
		loads(t, w.l.Rows())
	})
}
