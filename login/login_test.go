package login_test

import (
	"fmt"
	"math"
	"math/rand"
	"slices"
	"strconv"
	"strings"
	"testing"

	"seneschal/api"
	"seneschal/hash"
	"seneschal/login"
	"seneschal/otp"
)

func TestExamples(t *testing.T) {
	l := login.New()
	is(t, l.Set("ann", noughts, "pw"), api.OK)
	is(t, l.Check("ann", "pw", 0), api.OK)
	is(t, l.Check("ann", "no", 0), api.ErrLoginPass)
	is(t, l.Check("bob", "pw", 0), api.ErrLoginUser)
	is(t, l.Check("ann", "pw", 0), api.OK)
	for range 5 {
		is(t, l.Check("ann", "no", 7), api.ErrLoginPass)
	}
	is(t, l.Check("ann", "pw", 306), api.ErrLoginLocked)
	is(t, l.Check("ann", "pw", 307), api.OK)
	is(t, l.Code("ann", "000000", 0), api.ErrLoginNone)
	s := "sixteen bytes 16"
	is(t, l.Enrol("ann", s), api.OK)
	c := otp.Code(s, 2)
	is(t, l.Code("ann", c, 60), api.OK)
	is(t, l.Code("ann", c, 60), api.ErrLoginCode)
	k := api.Key{Id: "k", X: strings.Repeat("x", 32), Y: strings.Repeat("y", 32)}
	is(t, l.AddKey("ann", k), api.OK)
	is(t, l.AddKey("ann", k), api.ErrLoginForm)
	is(t, l.Count("ann", "k", 0), api.OK)
	is(t, l.Count("ann", "k", 3), api.OK)
	is(t, l.Count("ann", "k", 3), api.ErrLoginCode)
}

func TestP151New(t *testing.T) {
	w := newTwin(t)
	w.same()
	same(t, "All", w.l.All(), []api.Credential(nil))
	for _, user := range []string{"", "ann", "\xff", strings.Repeat("a", longest)} {
		lacks(t, w.l, w.m, user, "k")
		for _, c := range []call{drop(user), check(user, "pw", 0), check(user, "", 0), enrol(user, rfc), enrol(user, ""), code(user, "000000", 0), addKey(user, keyOf("k", 0)), addKey(user, api.Key{}), count(user, "k", 1), count(user, "", -1)} {
			w.refuses(c, api.ErrLoginUser)
		}
	}
}

func TestP151Told(t *testing.T) {
	w := some(t)
	var users []string
	for _, c := range w.l.All() {
		users = append(users, c.User)
	}
	same(t, "users", users, []string{"ann", "bob", "cat", "dan"})
	got, ok := w.l.Get("ann")
	pw, _ := hash.Stretch("pw", noughts, 4, 32)
	same(t, "Get", []any{got, ok}, []any{api.Credential{User: "ann", Salt: noughts, Hash: pw, Otp: rfc, Step: 3, Keys: []api.Key{keyOf("k", 0), keyOf("j", 7)}}, true})
	k, ok := w.l.Key("ann", "j")
	same(t, "Key", []any{k, ok}, []any{keyOf("j", 7), true})
	got, _ = w.l.Get("cat")
	same(t, "cat", []int{got.Fails, got.Until, len(got.Keys)}, []int{0, 310, 1})
	got, _ = w.l.Get("bob")
	same(t, "bob", []int{got.Fails, got.Until, len(got.Keys)}, []int{3, 0, 0})
	for _, user := range []string{"", "Ann", "an", "ann ", "login/ann", "u:ann", "eve", strings.Repeat("ann", longest)} {
		lacks(t, w.l, w.m, user, "k")
	}
	for _, id := range []string{"", "K", "k ", "kk", "j\x00", "l", strings.Repeat("k", longest)} {
		for _, user := range []string{"ann", "bob", "cat", "dan"} {
			lacks(t, w.l, w.m, user, id)
		}
	}
	// One user's passkey is no other's.
	lacks(t, w.l, w.m, "cat", "j")
	lacks(t, w.l, w.m, "bob", "k")
}

// wrong names, salts and passwords of Set.
var (
	notNames = []string{"", "Ann", "ann ", " ann", "a/n", "a|n", "u:ann", "é", "\x00", "ann\n", "{", strings.Repeat("a", 25), strings.Repeat("a", longest)}
	notSalts = []string{"", noughts[1:], noughts + "0", strings.Repeat("0", 32), strings.Repeat("0", longest)}
	notPass  = []string{"", strings.Repeat("p", 65), strings.Repeat("p", 66), strings.Repeat("p", 128), strings.Repeat("p", longest)}
)

func TestP152SetRefused(t *testing.T) {
	w := some(t)
	for _, user := range notNames {
		w.refuses(set(user, noughts, "pw"), api.ErrLoginForm)
	}
	for _, user := range []string{"ann", "cat", "eve"} {
		for _, salt := range notSalts {
			w.refuses(set(user, salt, "pw"), api.ErrLoginForm)
		}
		for _, pass := range notPass {
			w.refuses(set(user, noughts, pass), api.ErrLoginForm)
		}
	}
	w.refuses(set("", "", ""), api.ErrLoginForm)
}

func TestP152Set(t *testing.T) {
	long, _ := sized(64)
	name, _ := sized(24)
	w := newTwin(t)
	for _, c := range []struct{ user, salt, pass string }{
		{"ann", noughts, "p"}, {"-", strings.Repeat("\x00", 16), "\x00"}, {".", strings.Repeat("\xff", 16), "\xff\xfe"}, {"_", "éééééééé", " "}, {"0", "\n:/ 1234abcdABCD", long}, {name, noughts, "pass word, with \x00 and é"},
	} {
		w.all(set(c.user, c.salt, c.pass))
		same(t, "a new one", w.of(c.user), api.Credential{User: c.user, Salt: c.salt, Hash: theHash(c.pass, c.salt)})
		w.all(check(c.user, c.pass, 0))
		w.refuses(code(c.user, "000000", 0), api.ErrLoginNone)
	}
}

// Another password: what else there is stays, but what was counted, and the lock.
func TestP152SetAgain(t *testing.T) {
	w := some(t)
	for _, user := range []string{"ann", "bob", "cat", "dan"} {
		before := w.of(user)
		w.all(set(user, "another salt 16b", "new"))
		before.Salt, before.Hash, before.Fails, before.Until = "another salt 16b", theHash("new", "another salt 16b"), 0, 0
		same(t, user, w.of(user), before)
		// That of earlier is none any more.
		for _, pass := range []string{"pw", "word", "dan's", "no"} {
			w.answers(check(user, pass, 8), api.ErrLoginPass)
		}
		w.all(check(user, "new", 8))
	}
	// The code that was taken is taken no more.
	w.refuses(code("ann", theCode(rfc, 2), 60), api.ErrLoginCode)
	w.all(code("ann", theCode(rfc, 3), 60))
	// The same password with another salt, and once more with the same one.
	w.all(set("ann", noughts, "new"), set("ann", noughts, "new"), check("ann", "new", 0))
}

func TestP152Full(t *testing.T) {
	w := newTwin(t)
	for i := range 64 {
		if e := w.does(set(fmt.Sprint("user", i), noughts, "pw")); e != api.OK {
			t.Fatalf("%d: %d", i, e)
		}
	}
	w.same()
	w.refuses(set("ann", noughts, "pw"), api.ErrLoginFull)
	w.refuses(set("user", noughts, "pw"), api.ErrLoginFull)
	w.refuses(set("user64", noughts, "pw"), api.ErrLoginFull)
	w.refuses(set("Ann", noughts, "pw"), api.ErrLoginForm)
	w.refuses(set("ann", "", "pw"), api.ErrLoginForm)
	w.refuses(set("ann", noughts, ""), api.ErrLoginForm)
	w.all(set("user63", noughts, "new"), set("user0", noughts, "new"))
	w.all(drop("user7"), set("ann", noughts, "pw"))
	w.refuses(set("user7", noughts, "pw"), api.ErrLoginFull)
	same(t, "how many", len(w.l.All()), 64)
}

func TestP152Drop(t *testing.T) {
	w := some(t)
	for _, user := range append(notNames, "eve", "an", "anna") {
		w.refuses(drop(user), api.ErrLoginUser)
	}
	for _, user := range []string{"cat", "ann", "dan", "bob"} {
		w.all(drop(user))
		lacks(t, w.l, w.m, user, "k")
		for _, c := range []call{drop(user), check(user, "pw", 400), enrol(user, rfc), code(user, theCode(rfc, 9), 270), addKey(user, keyOf("k", 0)), count(user, "k", 9)} {
			w.refuses(c, api.ErrLoginUser)
		}
	}
	same(t, "All", w.l.All(), []api.Credential(nil))
	// Who comes again is a new one.
	w.all(set("ann", noughts, "pw"), set("cat", noughts, "pw"))
	for _, user := range []string{"ann", "cat"} {
		same(t, user, w.of(user), api.Credential{User: user, Salt: noughts, Hash: theHash("pw", noughts)})
	}
	w.all(check("cat", "pw", 0), addKey("ann", keyOf("k", 0)), enrol("ann", rfc), code("ann", theCode(rfc, 2), 60))
}

// notTimes: what a time may not be.
var notTimes = []int{-1, -2, -30, math.MinInt, api.MaxTick + 1, api.MaxTick + 2, 1 << 41, math.MaxInt - 300, math.MaxInt}

func TestP153NoTime(t *testing.T) {
	w := some(t)
	for _, now := range notTimes {
		for _, user := range []string{"ann", "bob", "cat", "eve", ""} {
			for _, pass := range []string{"pw", "word", "no", ""} {
				w.refuses(check(user, pass, now), api.ErrArg)
			}
		}
	}
	w.all(check("ann", "pw", 0), check("ann", "pw", 1), check("ann", "pw", api.MaxTick), check("cat", "pw", api.MaxTick), check("bob", "word", 0))
	w.refuses(check("eve", "pw", 0), api.ErrLoginUser)
	w.refuses(check("eve", "", api.MaxTick), api.ErrLoginUser)
}

// near: texts near a password, none of which has its stretch.
func near(pass string) []string {
	return []string{pass[1:], pass[:len(pass)-1], pass + " ", " " + pass, pass + "\n", strings.ToUpper(pass), pass + pass, pass[1:] + pass[:1], "\x00" + pass, pass + "\x00x"}
}

func TestP153Check(t *testing.T) {
	for _, pass := range []string{"pw", "correct horse", "\xff\x00\xfe", strings.Repeat("p", 63), strings.Repeat("p", 62) + "pq"} {
		w := newTwin(t)
		w.all(set("ann", noughts, pass))
		for _, other := range append(near(pass), notPass...) {
			if other == pass {
				continue
			}
			w.answers(check("ann", other, 5), api.ErrLoginPass)
			same(t, "Fails", w.of("ann").Fails, 1)
			w.all(check("ann", pass, 5))
			same(t, "Fails", w.of("ann").Fails, 0)
		}
	}
}

// What counts is the stretch: bytes 0 behind a password, up to 64, change nothing of it (chapter 4).
func TestP153SameStretch(t *testing.T) {
	w := newTwin(t)
	w.all(set("ann", noughts, "pw"), check("ann", "pw\x00", 0), check("ann", "pw"+strings.Repeat("\x00", 62), 0))
	w.answers(check("ann", "pw"+strings.Repeat("\x00", 63), 0), api.ErrLoginPass)
	// One of more than 64 bytes is none, though it has the stretch of its sum.
	long := strings.Repeat("p", 65)
	w.all(set("ann", noughts, hash.Sum(long)))
	w.answers(check("ann", long, 0), api.ErrLoginPass)
	same(t, "Fails", w.of("ann").Fails, 1)
	w.all(check("ann", hash.Sum(long), 0))
	// The empty one is none, though it has the stretch of a byte 0.
	w.all(set("ann", noughts, "\x00"))
	w.answers(check("ann", "", 0), api.ErrLoginPass)
	w.all(check("ann", "\x00", 0))
}

func TestP153Fails(t *testing.T) {
	for _, wrong := range []string{"no", "", strings.Repeat("p", 65), strings.Repeat("p", longest)} {
		w := newTwin(t)
		w.all(set("ann", noughts, "pw"), set("bob", noughts, "pw"))
		for fails := 1; fails <= 4; fails++ {
			w.answers(check("ann", wrong, fails*10), api.ErrLoginPass)
			same(t, "Fails and Until", []int{w.of("ann").Fails, w.of("ann").Until}, []int{fails, 0})
		}
		w.answers(check("ann", wrong, 50), api.ErrLoginPass)
		same(t, "Fails and Until", []int{w.of("ann").Fails, w.of("ann").Until}, []int{0, 350})
		same(t, "another's", []int{w.of("bob").Fails, w.of("bob").Until}, []int{0, 0})
	}
	// In a row: a right one in between begins anew.
	w := newTwin(t)
	w.all(set("ann", noughts, "pw"))
	for range 3 {
		for range 4 {
			w.answers(check("ann", "no", 9), api.ErrLoginPass)
		}
		w.all(check("ann", "pw", 9))
		same(t, "Fails and Until", []int{w.of("ann").Fails, w.of("ann").Until}, []int{0, 0})
	}
}

func TestP153Locked(t *testing.T) {
	w := some(t)
	for _, now := range []int{0, 1, 10, 11, 309} {
		for _, pass := range []string{"pw", "no", ""} {
			w.refuses(check("cat", pass, now), api.ErrLoginLocked)
		}
	}
	// It is not locked from then on: who is wrong is counted from one on, and Until stays.
	v := w.clone()
	for fails := 1; fails <= 4; fails++ {
		v.answers(check("cat", "no", 310), api.ErrLoginPass)
		same(t, "Fails and Until", []int{v.of("cat").Fails, v.of("cat").Until}, []int{fails, 310})
	}
	v.refuses(check("cat", "pw", 309), api.ErrLoginLocked)
	v.answers(check("cat", "no", 400), api.ErrLoginPass)
	same(t, "Fails and Until", []int{v.of("cat").Fails, v.of("cat").Until}, []int{0, 700})
	v.refuses(check("cat", "pw", 699), api.ErrLoginLocked)
	v.all(check("cat", "pw", 700))
	// Who is right opens it also for times that are earlier.
	w.all(check("cat", "pw", 310))
	same(t, "Until", w.of("cat").Until, 0)
	w.all(check("cat", "pw", 0))
	// What else is done with a credential asks for no lock.
	u := some(t)
	u.all(addKey("cat", keyOf("m", 0)), count("cat", "k", 4), enrol("cat", rfc), code("cat", theCode(rfc, 1), 30), set("cat", noughts, "new"), check("cat", "new", 31))
}

// At the clock's last tick, the lock outlasts all times.
func TestP153LockedForGood(t *testing.T) {
	w := newTwin(t)
	w.all(set("ann", noughts, "pw"))
	for range 5 {
		w.answers(check("ann", "no", api.MaxTick), api.ErrLoginPass)
	}
	same(t, "Until", w.of("ann").Until, api.MaxTick+300)
	w.refuses(check("ann", "pw", api.MaxTick), api.ErrLoginLocked)
	w.refuses(check("ann", "pw", 0), api.ErrLoginLocked)
	w.refuses(check("ann", "pw", api.MaxTick+300), api.ErrArg)
	loads(t, w.l.Rows())
	w.all(set("ann", noughts, "pw"), check("ann", "pw", api.MaxTick))
}

func TestP154Enrol(t *testing.T) {
	w := some(t)
	most, more := sized(64)
	for _, secret := range []string{"", "s", rfc[:15], more, strings.Repeat("s", longest)} {
		for _, user := range []string{"ann", "bob", "cat", "dan"} {
			w.refuses(enrol(user, secret), api.ErrLoginForm)
		}
		w.refuses(enrol("eve", secret), api.ErrLoginUser)
	}
	for _, secret := range []string{rfc[:16], rfc[:17], most[:63], most, strings.Repeat("\x00", 16), strings.Repeat("\xff", 64)} {
		for _, user := range []string{"ann", "bob", "cat", "dan"} {
			before := w.of(user)
			w.all(enrol(user, secret))
			before.Otp, before.Step = secret, 0
			same(t, user, w.of(user), before)
			w.all(code(user, theCode(secret, 2), 60))
		}
	}
	// The same secret once more: what was taken is taken again.
	w.all(enrol("ann", rfc), code("ann", theCode(rfc, 2), 60))
	w.refuses(code("ann", theCode(rfc, 2), 60), api.ErrLoginCode)
	w.all(enrol("ann", rfc), code("ann", theCode(rfc, 2), 60))
}

func TestP154CodeRefused(t *testing.T) {
	w := some(t)
	for _, now := range notTimes {
		for _, user := range []string{"ann", "bob", "eve", ""} {
			w.refuses(code(user, theCode(rfc, max(0, min(now, api.MaxTick))/30), now), api.ErrArg)
		}
	}
	for _, now := range []int{0, 89, api.MaxTick} {
		w.refuses(code("eve", "000000", now), api.ErrLoginUser)
		w.refuses(code("bob", "000000", now), api.ErrLoginNone)
		w.refuses(code("cat", theCode("", now/30), now), api.ErrLoginNone)
	}
	c := theCode(rfc, 10)
	for _, digits := range []string{"", c[1:], c[:5], c + "0", "0" + c, c + " ", " " + c, c[:5] + " ", "abcdef", "000000", "999999", c + c, strings.Repeat(c, 1<<16)} {
		w.refuses(code("ann", digits, 300), api.ErrLoginCode)
	}
	// Of another user's secret.
	w.refuses(code("dan", c, 300), api.ErrLoginCode)
	w.all(code("ann", c, 300))
}

func TestP154Window(t *testing.T) {
	last := api.MaxTick / 30
	for _, c := range []struct{ step, now, want int }{
		// At 300 to 329 it is step 10.
		{8, 300, 0}, {9, 300, 10}, {10, 300, 11}, {11, 300, 12}, {12, 300, 0},
		{8, 329, 0}, {9, 329, 10}, {10, 329, 11}, {11, 329, 12}, {12, 329, 0},
		{9, 330, 0}, {10, 330, 11}, {11, 330, 12}, {12, 330, 13}, {13, 330, 0}, {9, 299, 10}, {10, 299, 11}, {11, 299, 0},
		// No step is below 0.
		{-2, 0, 0}, {-1, 0, 0}, {0, 0, 1}, {1, 0, 2}, {2, 0, 0}, {0, 29, 1}, {1, 29, 2}, {2, 29, 0}, {0, 59, 1}, {0, 60, 0}, {2, 30, 3},
		{last - 2, api.MaxTick, 0}, {last - 1, api.MaxTick, last}, {last, api.MaxTick, last + 1}, {last + 1, api.MaxTick, last + 2}, {last + 2, api.MaxTick, 0},
	} {
		w := newTwin(t)
		w.all(set("ann", noughts, "pw"), enrol("ann", rfc))
		if c.want == 0 {
			w.refuses(code("ann", theCode(rfc, c.step), c.now), api.ErrLoginCode)
		} else {
			w.all(code("ann", theCode(rfc, c.step), c.now))
		}
		same(t, fmt.Sprint(c), w.of("ann").Step, c.want)
	}
}

// Each step's code is taken but once, and none of a step ahead of one that was taken.
func TestP154EachStepOnce(t *testing.T) {
	w := newTwin(t)
	w.all(set("ann", noughts, "pw"), enrol("ann", rfc))
	w.all(code("ann", theCode(rfc, 9), 300))
	w.refuses(code("ann", theCode(rfc, 9), 300), api.ErrLoginCode)
	w.refuses(code("ann", theCode(rfc, 9), 329), api.ErrLoginCode)
	w.all(code("ann", theCode(rfc, 10), 300))
	w.refuses(code("ann", theCode(rfc, 9), 300), api.ErrLoginCode)
	w.refuses(code("ann", theCode(rfc, 10), 330), api.ErrLoginCode)
	w.all(code("ann", theCode(rfc, 12), 330))
	for _, now := range []int{300, 330, 360, 390} {
		for step := 8; step <= 12; step++ {
			w.refuses(code("ann", theCode(rfc, step), now), api.ErrLoginCode)
		}
	}
	w.all(code("ann", theCode(rfc, 13), 360))
	// A new password gives none back.
	w.all(set("ann", noughts, "new"))
	w.refuses(code("ann", theCode(rfc, 13), 390), api.ErrLoginCode)
	// Behind another secret.
	w.all(enrol("ann", "sixteen bytes 16"), code("ann", theCode("sixteen bytes 16", 13), 390))
	// Nothing is counted of wrong ones.
	for range 20 {
		w.refuses(code("ann", "no", 420), api.ErrLoginCode)
	}
	w.all(code("ann", theCode("sixteen bytes 16", 14), 420))
}

// Two steps that have the same code: the greatest one of the window counts.
func TestP154TheSameCode(t *testing.T) {
	for _, c := range []struct {
		secret      string
		early, late int
	}{{rfc, 398541, 398542}, {rfc, 437141, 437142}, {rfc, 2571944, 2571946}, {"secret of sixteen 313726", -1, 1}, {"secret of sixteen 484907", -1, 2}, {"secret of sixteen 563129", -1, 0}, {"secret of sixteen 585868", 0, 2}, {"secret of sixteen 1005610", -1, 1}} {
		digits := theCode(c.secret, c.early)
		if digits != theCode(c.secret, c.late) {
			t.Fatalf("%v have not one code", c)
		}
		for now := max(0, c.early-2); now <= c.late+2; now++ {
			w := newTwin(t)
			w.all(set("ann", noughts, "pw"), enrol("ann", c.secret))
			w.does(code("ann", digits, now*30))
			w.same()
			for later := now; later <= c.late+2; later++ {
				w.does(code("ann", digits, later*30+29))
				w.same()
			}
		}
	}
	w := newTwin(t)
	w.all(set("ann", noughts, "pw"), enrol("ann", rfc), code("ann", theCode(rfc, 398541), 398541*30))
	same(t, "Step", w.of("ann").Step, 398543)
	w.refuses(code("ann", theCode(rfc, 398541), 398541*30), api.ErrLoginCode)
	// The window doesn't reach the later one yet: then both can be taken.
	w.all(enrol("ann", rfc), code("ann", theCode(rfc, 398541), 398540*30))
	same(t, "Step", w.of("ann").Step, 398542)
	w.all(code("ann", theCode(rfc, 398541), 398541*30))
	same(t, "Step", w.of("ann").Step, 398543)
}

func TestP155AddKey(t *testing.T) {
	most, more := sized(86)
	w := some(t)
	for _, k := range []api.Key{keyOf(most, 0), keyOf("\x00", 1<<32-1), {Id: "=", X: strings.Repeat("\x00", 32), Y: strings.Repeat("\x00", 32), Count: 1}, {Id: "K", X: noughts + noughts, Y: rfc, Count: 1 << 31}} {
		before := w.of("bob")
		w.all(addKey("bob", k))
		before.Keys = append(before.Keys, k)
		same(t, "bob", w.of("bob"), before)
		// It may be somebody else's, too.
		w.all(addKey("dan", k))
	}
	for _, user := range []string{"ann", "cat", "bob"} {
		for _, spoil := range []func(k *api.Key){
			func(k *api.Key) { k.Id = "" }, func(k *api.Key) { k.Id = more }, func(k *api.Key) { k.Id = strings.Repeat("k", longest) },
			func(k *api.Key) { k.X = "" }, func(k *api.Key) { k.X = rfc[1:] }, func(k *api.Key) { k.X = rfc + "0" }, func(k *api.Key) { k.X = rfc + rfc },
			func(k *api.Key) { k.Y = "" }, func(k *api.Key) { k.Y = rfc[1:] }, func(k *api.Key) { k.Y = rfc + "0" }, func(k *api.Key) { k.Y = rfc + rfc },
			func(k *api.Key) { k.Count = -1 }, func(k *api.Key) { k.Count = math.MinInt }, func(k *api.Key) { k.Count = 1 << 32 }, func(k *api.Key) { k.Count = math.MaxInt },
		} {
			k := keyOf("new", 0)
			spoil(&k)
			w.refuses(addKey(user, k), api.ErrLoginForm)
			w.refuses(addKey("eve", k), api.ErrLoginUser)
		}
	}
	w.refuses(addKey("eve", keyOf("k", 0)), api.ErrLoginUser)
}

func TestP155KeysOfOneUser(t *testing.T) {
	w := some(t)
	// Of the Id alone: another key of that Id is one that it has.
	for _, k := range []api.Key{keyOf("k", 0), keyOf("k", 9), {Id: "j", X: rfc, Y: rfc}} {
		w.refuses(addKey("ann", k), api.ErrLoginForm)
	}
	w.all(addKey("ann", keyOf("a", 0)), addKey("ann", keyOf("K", 3)))
	var ids []string
	for _, k := range w.of("ann").Keys {
		ids = append(ids, k.Id)
	}
	same(t, "in the order in which they came", ids, []string{"k", "j", "a", "K"})
	w.refuses(addKey("ann", keyOf("new", 0)), api.ErrLoginFull)
	w.refuses(addKey("ann", keyOf("", 0)), api.ErrLoginForm)
	for _, id := range ids {
		w.refuses(addKey("ann", keyOf(id, 0)), api.ErrLoginForm)
	}
	w.all(addKey("bob", keyOf("new", 0)))
	w.all(set("ann", noughts, "new"), enrol("ann", rfc))
	w.refuses(addKey("ann", keyOf("new", 0)), api.ErrLoginFull)
	w.all(drop("ann"), set("ann", noughts, "pw"), addKey("ann", keyOf("new", 0)))
}

func TestP155Count(t *testing.T) {
	w := some(t)
	for _, counter := range []int{-1, 0, 1, 8, 1 << 32} {
		w.refuses(count("eve", "k", counter), api.ErrLoginUser)
		w.refuses(count("", "", counter), api.ErrLoginUser)
		for _, id := range []string{"", "K", "m", "k\x00", strings.Repeat("k", longest)} {
			w.refuses(count("ann", id, counter), api.ErrLoginNone)
			w.refuses(count("dan", id, counter), api.ErrLoginNone)
		}
		w.refuses(count("bob", "k", counter), api.ErrLoginNone)
	}
	counts := func(user, id string) int {
		k, _ := w.l.Key(user, id)
		return k.Count
	}
	// j is at 7.
	for _, counter := range []int{0, 1, 6, 7, -1, -8, math.MinInt, 1 << 32, 1<<32 + 8, 1 << 40, math.MaxInt} {
		w.refuses(count("ann", "j", counter), api.ErrLoginCode)
	}
	w.all(count("ann", "j", 8))
	w.refuses(count("ann", "j", 8), api.ErrLoginCode)
	w.refuses(count("ann", "j", 7), api.ErrLoginCode)
	w.all(count("ann", "j", 1<<31), count("ann", "j", 1<<32-2), count("ann", "j", 1<<32-1))
	for _, counter := range []int{0, 1, 9, 1<<32 - 1, 1 << 32} {
		w.refuses(count("ann", "j", counter), api.ErrLoginCode)
	}
	same(t, "Counts", []int{counts("ann", "k"), counts("ann", "j"), counts("cat", "k")}, []int{0, 1<<32 - 1, 0})
	// k is at 0, and may stay there.
	for range 3 {
		w.all(count("ann", "k", 0))
	}
	for _, counter := range []int{-1, math.MinInt, 1 << 32} {
		w.refuses(count("ann", "k", counter), api.ErrLoginCode)
	}
	w.all(count("ann", "k", 1))
	w.refuses(count("ann", "k", 0), api.ErrLoginCode)
	w.refuses(count("ann", "k", 1), api.ErrLoginCode)
	same(t, "Counts", []int{counts("ann", "k"), counts("ann", "j"), counts("cat", "k")}, []int{1, 1<<32 - 1, 0})
	w.all(count("cat", "k", 1<<32-1))
}

// witness: what follows, told by the calls and their answers alone.
type witness struct {
	taken map[string]int // of a user: the last step of which a code was taken
	fails map[string]int // of a user: wrong passwords in a row
	until map[string]int // of a user: the time till which the last five of them lock
}

// sees: a call, what it answered, and what was told before.
func (x *witness) sees(t testing.TB, before []api.Credential, l *login.Login, c call, e api.Errno) {
	t.Helper()
	was := (&model{before}).of(c.user)
	switch {
	case c.what == "Drop" && e == api.OK, c.what == "Set" && e == api.OK:
		delete(x.fails, c.user)
		delete(x.until, c.user)
		if c.what == "Drop" {
			delete(x.taken, c.user)
		}
	case c.what == "Enrol" && e == api.OK:
		delete(x.taken, c.user)
	case c.what == "Code" && e == api.OK:
		step := theStep(was.Otp, c.text, c.n)
		if last, ok := x.taken[c.user]; ok && step <= last {
			t.Errorf("%+v: step %d is taken behind %d", c, step, last)
		}
		x.taken[c.user] = step
	case c.what == "Check" && was != nil && isTime(c.n):
		x.checks(t, c, theHash(c.text, was.Salt) == was.Hash && c.text != "", e)
	case c.what == "Count" && e == api.OK:
		old := (&model{before}).key(c.user, c.text)
		k, _ := l.Key(c.user, c.text)
		if k.Count != c.n || k.Count <= old.Count && k.Count+old.Count > 0 {
			t.Errorf("%+v: %d behind %d", c, k.Count, old.Count)
		}
	}
}

func (x *witness) checks(t testing.TB, c call, right bool, e api.Errno) {
	t.Helper()
	switch {
	case c.n < x.until[c.user]:
		is(t, e, api.ErrLoginLocked)
	case right:
		is(t, e, api.OK)
		x.fails[c.user] = 0
	default:
		is(t, e, api.ErrLoginPass)
		x.fails[c.user]++
		if x.fails[c.user]%5 == 0 {
			x.until[c.user] = c.n + 300
		}
	}
}

// Calls by chance at rising times, of which each is answered as the chapter's words say, and keeps what follows.
func TestP157ManyCalls(t *testing.T) {
	answers := map[string]int{}
	for seed := range 40 {
		r := rand.New(rand.NewSource(int64(seed)))
		w := newTwin(t)
		x := &witness{map[string]int{}, map[string]int{}, map[string]int{}}
		now := 0
		for i := range 500 {
			if r.Intn(5) == 0 {
				now += r.Intn(40)
			}
			if r.Intn(100) == 0 {
				now += 200
			}
			c, before := anyCall(r, now), w.l.All()
			e := w.does(c)
			answers[fmt.Sprint(c.what, e)]++
			x.sees(t, before, w.l, c, e)
			if i%25 == 0 {
				w.same()
			}
			if r.Intn(20) == 0 {
				w.l = loads(t, w.l.Rows())
			}
			if r.Intn(20) == 0 {
				w.l = w.l.Clone()
			}
		}
		w.same()
	}
	for _, what := range []string{"Set0", "Set155", "Drop0", "Drop150", "Check0", "Check150", "Check151", "Check152", "Enrol0", "Enrol150", "Enrol155", "Code0", "Code150", "Code153", "Code154", "AddKey0", "AddKey150", "AddKey155", "AddKey156", "Count0", "Count150", "Count153", "Count154"} {
		if answers[what] < 20 {
			t.Errorf("%d times %s", answers[what], what)
		}
	}
}

// Whatever is tried at rising times, within so many ticks no more than five passwords are looked at, none of them the right one.
func TestP157Guesses(t *testing.T) {
	w := newTwin(t)
	w.all(set("ann", noughts, "pw"))
	var looked []int
	for now := range 1000 {
		if e := w.does(check("ann", strconv.Itoa(now), now)); e == api.ErrLoginPass {
			looked = append(looked, now)
		}
	}
	same(t, "looked at", looked, []int{0, 1, 2, 3, 4, 304, 305, 306, 307, 308, 608, 609, 610, 611, 612, 912, 913, 914, 915, 916})
}

// All that there can be at once.
func TestR1AsMuchAsThereMayBe(t *testing.T) {
	w := newTwin(t)
	for i := range 64 {
		for _, c := range full(fmt.Sprintf("%024d", 63-i)) {
			if e := w.does(c); e != api.OK {
				t.Fatalf("%+v: %d", c, e)
			}
		}
	}
	w.same()
	l := loads(t, w.l.Rows())
	tells(t, l, w.m)
	for _, row := range l.Rows() {
		if len(row.Key) > api.MaxKey || len(row.Value) > api.MaxValue {
			t.Errorf("a row of %d and %d bytes", len(row.Key), len(row.Value))
		}
	}
	if !slices.IsSortedFunc(l.Rows(), func(a, b api.Pair) int { return strings.Compare(a.Key, b.Key) }) {
		t.Error("rows that don't rise")
	}
}
