package login_test

import (
	"crypto/hmac"
	"crypto/pbkdf2"
	"crypto/sha256"
	"encoding/binary"
	"fmt"
	"math/rand"
	"regexp"
	"slices"
	"strconv"
	"strings"
	"testing"

	"seneschal/api"
	"seneschal/login"
)

// changer is a login, or what it is after the chapter's words.
type changer interface {
	Set(user, salt, pass string) api.Errno
	Drop(user string) api.Errno
	Check(user, pass string, now int) api.Errno
	Enrol(user, secret string) api.Errno
	Code(user, code string, now int) api.Errno
	AddKey(user string, k api.Key) api.Errno
	Count(user, id string, count int) api.Errno
}

// call of a changer: its name, and what is handed in.
type call struct {
	what       string
	user, salt string
	text       string
	key        api.Key
	n          int
}

func (c call) on(x changer) api.Errno {
	switch c.what {
	case "Set":
		return x.Set(c.user, c.salt, c.text)
	case "Drop":
		return x.Drop(c.user)
	case "Check":
		return x.Check(c.user, c.text, c.n)
	case "Enrol":
		return x.Enrol(c.user, c.text)
	case "Code":
		return x.Code(c.user, c.text, c.n)
	case "AddKey":
		return x.AddKey(c.user, c.key)
	case "Count":
		return x.Count(c.user, c.text, c.n)
	}
	panic(c.what)
}

func set(user, salt, pass string) call { return call{what: "Set", user: user, salt: salt, text: pass} }
func drop(user string) call            { return call{what: "Drop", user: user} }
func check(user, pass string, now int) call {
	return call{what: "Check", user: user, text: pass, n: now}
}
func enrol(user, secret string) call { return call{what: "Enrol", user: user, text: secret} }
func code(user, digits string, now int) call {
	return call{what: "Code", user: user, text: digits, n: now}
}
func addKey(user string, k api.Key) call { return call{what: "AddKey", user: user, key: k} }
func count(user, id string, counter int) call {
	return call{what: "Count", user: user, text: id, n: counter}
}

// model: a login after the chapter's words, in a list of any order.
type model struct{ all []api.Credential }

func (m *model) clone() *model {
	c := &model{slices.Clone(m.all)}
	for i := range c.all {
		c.all[i].Keys = slices.Clone(c.all[i].Keys)
	}
	return c
}

var nameForm = regexp.MustCompile(`\A[a-z0-9._-]{1,24}\z`)

// isIn: is a number one of those from a first to a last one?
func isIn(n, first, last int) bool { return n >= first && n <= last }

func isTime(now int) bool { return isIn(now, 0, 1<<40) }

func keyMayBe(k api.Key) bool {
	return isIn(len(k.Id), 1, 86) && len(k.X) == 32 && len(k.Y) == 32 && isIn(k.Count, 0, 1<<32-1)
}

// theHash: what another program stretches.
func theHash(pass, salt string) string {
	b, err := pbkdf2.Key(sha256.New, pass, []byte(salt), 4, 32)
	if err != nil {
		panic(err)
	}
	return string(b)
}

// theCode: what another program answers.
func theCode(secret string, step int) string {
	m := hmac.New(sha256.New, []byte(secret))
	m.Write(binary.BigEndian.AppendUint64(nil, uint64(step)))
	mac := m.Sum(nil)
	at := mac[31] & 15
	return fmt.Sprintf("%06d", binary.BigEndian.Uint32(mac[at:])&0x7fffffff%1000000)
}

// theStep: the greatest step about a time that has a code; -1, if there is none.
func theStep(secret, digits string, now int) int {
	for _, step := range []int{now/30 + 1, now / 30, now/30 - 1} {
		if step >= 0 && theCode(secret, step) == digits {
			return step
		}
	}
	return -1
}

// of a user: the credential, nil if there is none.
func (m *model) of(user string) *api.Credential {
	i := slices.IndexFunc(m.all, func(c api.Credential) bool { return c.User == user })
	if i < 0 {
		return nil
	}
	return &m.all[i]
}

func (m *model) key(user, id string) *api.Key {
	c := m.of(user)
	if c == nil {
		return nil
	}
	i := slices.IndexFunc(c.Keys, func(k api.Key) bool { return k.Id == id })
	if i < 0 {
		return nil
	}
	return &c.Keys[i]
}

func (m *model) Set(user, salt, pass string) api.Errno {
	c := m.of(user)
	switch {
	case !nameForm.MatchString(user) || len(salt) != 16 || !isIn(len(pass), 1, 64):
		return api.ErrLoginForm
	case c == nil && len(m.all) == 64:
		return api.ErrLoginFull
	case c == nil:
		// The newest first, so that nothing is told as it lies.
		m.all = slices.Insert(m.all, 0, api.Credential{User: user})
		c = &m.all[0]
	}
	*c = api.Credential{User: user, Salt: salt, Hash: theHash(pass, salt), Otp: c.Otp, Step: c.Step, Keys: c.Keys}
	return api.OK
}

func (m *model) Drop(user string) api.Errno {
	if m.of(user) == nil {
		return api.ErrLoginUser
	}
	m.all = slices.DeleteFunc(m.all, func(c api.Credential) bool { return c.User == user })
	return api.OK
}

func (m *model) Check(user, pass string, now int) api.Errno {
	c := m.of(user)
	switch {
	case !isTime(now):
		return api.ErrArg
	case c == nil:
		return api.ErrLoginUser
	case c.Until > now:
		return api.ErrLoginLocked
	case isIn(len(pass), 1, 64) && theHash(pass, c.Salt) == c.Hash:
		c.Fails, c.Until = 0, 0
		return api.OK
	case c.Fails == 4:
		c.Fails, c.Until = 0, now+300
	default:
		c.Fails++
	}
	return api.ErrLoginPass
}

func (m *model) Enrol(user, secret string) api.Errno {
	c := m.of(user)
	switch {
	case c == nil:
		return api.ErrLoginUser
	case !isIn(len(secret), 16, 64):
		return api.ErrLoginForm
	}
	c.Otp, c.Step = secret, 0
	return api.OK
}

func (m *model) Code(user, digits string, now int) api.Errno {
	c := m.of(user)
	switch {
	case !isTime(now):
		return api.ErrArg
	case c == nil:
		return api.ErrLoginUser
	case c.Otp == "":
		return api.ErrLoginNone
	}
	step := theStep(c.Otp, digits, now)
	if step < c.Step {
		return api.ErrLoginCode
	}
	c.Step = step + 1
	return api.OK
}

func (m *model) AddKey(user string, k api.Key) api.Errno {
	c := m.of(user)
	switch {
	case c == nil:
		return api.ErrLoginUser
	case !keyMayBe(k) || m.key(user, k.Id) != nil:
		return api.ErrLoginForm
	case len(c.Keys) == 4:
		return api.ErrLoginFull
	}
	c.Keys = append(slices.Clone(c.Keys), k)
	return api.OK
}

func (m *model) Count(user, id string, counter int) api.Errno {
	k := m.key(user, id)
	switch {
	case m.of(user) == nil:
		return api.ErrLoginUser
	case k == nil:
		return api.ErrLoginNone
	case k.Count == 0 && counter == 0:
	case !isIn(counter, k.Count+1, 1<<32-1):
		return api.ErrLoginCode
	}
	k.Count = counter
	return api.OK
}

// sorted: its credentials, by their users.
func (m *model) sorted() []api.Credential {
	return slices.SortedFunc(slices.Values(m.all), func(a, b api.Credential) int { return strings.Compare(a.User, b.User) })
}

// theRow: one text, or number, of a row behind the other.
func theRow(things ...any) string {
	s := ""
	for _, x := range things {
		s += fmt.Sprintf("%d:%v", len(fmt.Sprint(x)), x)
	}
	return s
}

// rowOf: a credential's.
func rowOf(c api.Credential) api.Pair {
	s := theRow(c.Salt, c.Hash, c.Otp, c.Step, c.Fails, c.Until, len(c.Keys))
	for _, k := range c.Keys {
		s += theRow(k.Id, k.X, k.Y, k.Count)
	}
	return api.Pair{Key: "login/" + c.User, Value: s}
}

func rowsOf(l ...api.Credential) []api.Pair {
	var rows []api.Pair
	for _, c := range l {
		rows = append(rows, rowOf(c))
	}
	return rows
}

func (m *model) rows() []api.Pair { return rowsOf(m.sorted()...) }

// emptyList: one that is told as such, where nil is told otherwise.
var emptyList = regexp.MustCompile(`(\[\][a-zA-Z.]+)\{\}`)

// told: an answer as a text; a list without anything is no other one than nil.
func told(x any) string { return emptyList.ReplaceAllString(fmt.Sprintf("%#v", x), "$1(nil)") }

// same: two answers.
func same(t testing.TB, what string, got, want any) {
	t.Helper()
	if a, b := told(got), told(want); a != b {
		t.Errorf("%s: %.900s; want %.900s", what, a, b)
	}
}

func is(t testing.TB, e, want api.Errno) { t.Helper(); same(t, "error", e, want) }

// tells: a login tells what the model says.
func tells(t testing.TB, l *login.Login, m *model) {
	t.Helper()
	same(t, "All", l.All(), m.sorted())
	same(t, "Rows", l.Rows(), m.rows())
	for _, c := range m.all {
		got, ok := l.Get(c.User)
		same(t, "Get", []any{got, ok}, []any{c, true})
		for _, k := range c.Keys {
			got, ok := l.Key(c.User, k.Id)
			same(t, "Key", []any{got, ok}, []any{k, true})
			lacks(t, l, m, c.User, k.Id+"x")
		}
		lacks(t, l, m, c.User, "")
		lacks(t, l, m, c.User+"x", "k")
	}
	lacks(t, l, m, "", "")
}

// lacks: a login tells nothing of a user, of a passkey, that the model has not.
func lacks(t testing.TB, l *login.Login, m *model, user, id string) {
	t.Helper()
	if m.of(user) == nil {
		c, ok := l.Get(user)
		same(t, "Get", []any{c, ok}, []any{api.Credential{}, false})
	}
	if m.key(user, id) == nil {
		k, ok := l.Key(user, id)
		same(t, "Key", []any{k, ok}, []any{api.Key{}, false})
	}
}

// twin: a login and a model, on which the same calls are made.
type twin struct {
	testing.TB
	l *login.Login
	m *model
}

func newTwin(t testing.TB) *twin { return &twin{t, login.New(), &model{}} }

func (w *twin) clone() *twin { return &twin{w.TB, w.l.Clone(), w.m.clone()} }

// does: a call on both, which answer the same.
func (w *twin) does(c call) api.Errno {
	w.Helper()
	e := c.on(w.l)
	if want := c.on(w.m); e != want {
		w.Fatalf("%.300q: %d; want %d", fmt.Sprint(c), e, want)
	}
	return e
}

// same: both tell the same.
func (w *twin) same() {
	w.Helper()
	tells(w.TB, w.l, w.m)
}

// answers: a call on both, and its error.
func (w *twin) answers(c call, want api.Errno) {
	w.Helper()
	if e := w.does(c); e != want {
		w.Errorf("%.300q: %d; want %d", fmt.Sprint(c), e, want)
	}
	w.same()
}

// refuses: a call on both that answers an error and changes nothing.
func (w *twin) refuses(c call, want api.Errno) {
	w.Helper()
	before := w.l.Rows()
	w.answers(c, want)
	same(w.TB, "rows behind an error", w.l.Rows(), before)
}

// all: calls on both, which all answer OK.
func (w *twin) all(calls ...call) {
	w.Helper()
	for _, c := range calls {
		w.answers(c, api.OK)
	}
}

// of a user: the credential that is told.
func (w *twin) of(user string) api.Credential {
	w.Helper()
	c, ok := w.l.Get(user)
	if !ok {
		w.Fatalf("%q has no credential", user)
	}
	return c
}

const (
	noughts = "0000000000000000"                 // a salt
	rfc     = "12345678901234567890123456789012" // a secret, of RFC 6238's
	longest = 1 << 20                            // bytes of what is far too long
)

// bytes: so many, and one more.
func sized(n int) (string, string) { return strings.Repeat("a", n), strings.Repeat("a", n+1) }

// keyOf: a passkey that may be.
func keyOf(id string, counter int) api.Key {
	return api.Key{Id: id, X: strings.Repeat("x", 32), Y: strings.Repeat("\xff", 32), Count: counter}
}

// full: calls that give a user as much of all as one may have.
func full(user string) []call {
	pass, _ := sized(64)
	calls := []call{set(user, strings.Repeat("\xff", 16), pass), enrol(user, strings.Repeat("\x00", 64)), code(user, theCode(strings.Repeat("\x00", 64), api.MaxTick/30), api.MaxTick)}
	for i := range 4 {
		calls = append(calls, addKey(user, keyOf(strconv.Itoa(i)+strings.Repeat("\xff", 85), 1<<32-1)))
	}
	return calls
}

// some: a few users with all that there is.
//
//	ann has a password, a secret of which the code of step 2 was taken, and two passkeys
//	bob has three wrong passwords behind him
//	cat is locked till 310, and has one passkey, which doesn't count
//	dan has a secret
func some(t testing.TB) *twin {
	w := newTwin(t)
	w.all(
		set("dan", "salt of dan  16b", "dan's"), enrol("dan", "dan's secret.."+"xy"),
		set("ann", noughts, "pw"), enrol("ann", rfc), code("ann", theCode(rfc, 2), 60), addKey("ann", keyOf("k", 0)), addKey("ann", keyOf("j", 7)),
		set("cat", strings.Repeat("\xfe", 16), "pw"), addKey("cat", keyOf("k", 0)), count("cat", "k", 0),
		set("bob", noughts, "word"),
	)
	for i := range 5 {
		w.answers(check("cat", "no", 6+i), api.ErrLoginPass)
		if i < 3 {
			w.answers(check("bob", "no", i), api.ErrLoginPass)
		}
	}
	return w
}

// anyOf: one of these.
func anyOf[T any](r *rand.Rand, l ...T) T { return l[r.Intn(len(l))] }

// anyCall: one that comes by chance at about that time, of one of few users.
func anyCall(r *rand.Rand, now int) call {
	user, secret := anyOf(r, "ann", "ann", "bob", "cat", "dan", "eve"), anyOf(r, rfc, rfc, rfc, rfc, "sixteen bytes 16")
	c := call{what: anyOf(r, "Set", "Check", "Check", "Check", "Check", "Enrol", "Code", "Code", "Code", "Code", "AddKey", "AddKey", "Count", "Count", "Count"), user: user, n: now}
	switch c.what {
	case "Set":
		c.salt, c.text = anyOf(r, noughts, "salt of sixteenb", noughts, "short"), anyOf(r, "pw", "word", "pw", "pw", "")
		if r.Intn(15) == 0 {
			c.what = "Drop"
		}
	case "Check":
		c.text = anyOf(r, "pw", "no", "no", "word", "no", "")
	case "Enrol":
		c.text = anyOf(r, secret, "short")
		if r.Intn(2) == 0 {
			c = code(user, theCode(secret, now/30), now)
		}
	case "Code":
		c.text = theCode(secret, now/30+anyOf(r, 0, 0, 0, 1, 1, -1, -1, 2, -2))
	case "AddKey":
		c.key = keyOf(anyOf(r, "j", "k", "l", "m", "n", "o", ""), anyOf(r, 0, 0, 1, 5, 0, 1<<32-1, 1<<32, -1))
	case "Count":
		c.text, c.n = anyOf(r, "j", "k", "l", "m", "n"), anyOf(r, 0, 0, 1, 2, 3, r.Intn(100), 1<<32-1, 1<<32, -1)
	}
	return c
}

// loads: rows are those of a login, which tells them; unfit: they are not.
func loads(t testing.TB, rows []api.Pair) *login.Login {
	t.Helper()
	l, e := login.Load(rows)
	if e != api.OK || l == nil {
		t.Fatalf("%.400q: %v, %d", rows, l, e)
	}
	same(t, "Rows", l.Rows(), rows)
	return l
}

func unfit(t testing.TB, rows []api.Pair) {
	t.Helper()
	if l, e := login.Load(rows); l != nil || e != api.ErrLoginForm {
		t.Errorf("%.400q: %v, %d", rows, l, e)
	}
}
