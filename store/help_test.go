package store_test

import (
	"encoding/binary"
	"encoding/hex"
	"fmt"
	"hash/crc32"
	"maps"
	"math/rand"
	"slices"
	"strings"
	"testing"

	"seneschal/api"
	"seneschal/disk"
	"seneschal/store"
	"seneschal/wal"
)

// lastGeneration: the greatest one that a log's file may have.
const lastGeneration = 1 << 62

// all: more pairs than a store or a transaction of these tests has.
const all = 1 << 30

// bytesOf: those of digits of base sixteen, with blanks.
func bytesOf(digits string) string {
	b, err := hex.DecodeString(strings.ReplaceAll(digits, " ", ""))
	if err != nil {
		panic(err)
	}
	return string(b)
}

// thePut, theDelete: a change's bytes, whether it may be or not.
func thePut(key, value string) string {
	b := append([]byte{1, byte(len(key))}, key...)
	b = binary.BigEndian.AppendUint16(b, uint16(len(value)))
	return string(b) + value
}

func theDelete(key string) string { return string(append([]byte{0, byte(len(key))}, key...)) }

// theRecord: that of changes' bytes; theImage: that of puts.
func theRecord(changes ...string) string {
	return string(binary.BigEndian.AppendUint16(nil, uint16(len(changes)))) + strings.Join(changes, "")
}

func theImage(puts ...string) string {
	return string(binary.BigEndian.AppendUint32(nil, uint32(len(puts)))) + strings.Join(puts, "")
}

// theFile: a log's file.
func theFile(generation uint64, snapshot string, records ...string) string {
	s := "SNL1" + string(binary.BigEndian.AppendUint64(nil, generation))
	for _, r := range append([]string{snapshot}, records...) {
		b := binary.BigEndian.AppendUint32(nil, uint32(len(r)))
		s += string(binary.BigEndian.AppendUint32(b, crc32.ChecksumIEEE([]byte(r)))) + r
	}
	return s
}

// newDisk: a disk with these bytes.
func newDisk(t testing.TB, a, b string) *disk.Disk {
	t.Helper()
	d, e := disk.New([]string{a, b})
	if e != api.OK {
		t.Fatalf("New of %d and %d bytes: %d", len(a), len(b), e)
	}
	return d
}

// newStore: one on a disk without bytes.
func newStore(t testing.TB) (*store.Store, *disk.Disk) {
	t.Helper()
	d := newDisk(t, "", "")
	s, e := store.New(d)
	if e != api.OK || s == nil {
		t.Fatalf("New: %v, %d", s, e)
	}
	return s, d
}

// opened: the store that a disk has.
func opened(t testing.TB, d *disk.Disk) *store.Store {
	t.Helper()
	s, e := store.Open(d)
	if e != api.OK || s == nil {
		t.Fatalf("Open: %v, %d", s, e)
	}
	return s
}

// refuses: Open answers an error, and nothing else, and leaves the files as they are.
func refuses(t testing.TB, d *disk.Disk, want api.Errno) {
	t.Helper()
	files := d.Files()
	if s, e := store.Open(d); s != nil || e != want {
		t.Errorf("Open: %v, %d; want %d", s, e, want)
	}
	holds(t, d, files[0], files[1])
}

// is: an error is want.
func is(t testing.TB, e, want api.Errno) {
	t.Helper()
	if e != want {
		t.Errorf("%d; want %d", e, want)
	}
}

// holds: a disk's files have these bytes.
func holds(t testing.TB, d *disk.Disk, a, b string) {
	t.Helper()
	if l := d.Files(); l[0] != a || l[1] != b {
		t.Errorf("%.200x; want %.200x, %.200x", l, a, b)
	}
}

// gets: what a key's value is; gone: it is not there.
func gets(t testing.TB, x viewer, key, want string) {
	t.Helper()
	if value, ok := x.Get(key); value != want || !ok {
		t.Errorf("%.80q: %.80q, %t; want %.80q", key, value, ok, want)
	}
}

func gone(t testing.TB, x viewer, key string) {
	t.Helper()
	if value, ok := x.Get(key); value != "" || ok {
		t.Errorf("%.80q: %.80q, %t", key, value, ok)
	}
}

// viewer is a store or a transaction.
type viewer interface {
	Get(key string) (string, bool)
	Scan(from string, most int) []api.Pair
}

// scans: what Scan answers: keys and values by turns.
func scans(t testing.TB, x viewer, from string, most int, want ...string) {
	t.Helper()
	var l []string
	for _, p := range x.Scan(from, most) {
		l = append(l, p.Key, p.Value)
	}
	if !slices.Equal(l, want) {
		t.Errorf("Scan(%.80q, %d): %.200q; want %.200q", from, most, l, want)
	}
}

// has: a store or a transaction sees just these pairs.
func has(t testing.TB, x viewer, want map[string]string) {
	t.Helper()
	if l := x.Scan("", all); !slices.Equal(l, sorted(want)) {
		t.Errorf("%.400q; want %.400q", l, sorted(want))
	}
}

// sorted: pairs by rising keys.
func sorted(m map[string]string) []api.Pair {
	var l []api.Pair
	for _, key := range slices.Sorted(maps.Keys(m)) {
		l = append(l, api.Pair{Key: key, Value: m[key]})
	}
	return l
}

// size: how many bytes pairs have.
func size(m map[string]string) int {
	n := 0
	for key, value := range m {
		n += len(key) + len(value)
	}
	return n
}

// tells: a store tells just these pairs, and whether it is dead.
func tells(t testing.TB, s *store.Store, want map[string]string, dead bool) {
	t.Helper()
	has(t, s, want)
	if s.Keys() != len(want) || s.Bytes() != size(want) || s.Dead() != dead {
		t.Errorf("%d, %d, %t; want %d, %d, %t", s.Keys(), s.Bytes(), s.Dead(), len(want), size(want), dead)
	}
}

// commits: a transaction of puts: keys and values by turns.
func commits(s *store.Store, puts ...string) api.Errno {
	tx := s.Begin()
	for i := 0; i < len(puts); i += 2 {
		if e := tx.Put(puts[i], puts[i+1]); e != api.OK {
			return e
		}
	}
	return tx.Commit()
}

// deletes: a transaction of deletes.
func deletes(s *store.Store, keys ...string) api.Errno {
	tx := s.Begin()
	for _, key := range keys {
		if e := tx.Delete(key); e != api.OK {
			return e
		}
	}
	return tx.Commit()
}

// model is a store after the chapter's words, on a log of its own.
type model struct {
	d    *disk.Disk
	l    *wal.Log
	at   map[string]string
	done int // commits with changes
	dead bool
}

func newModel(t testing.TB) *model {
	t.Helper()
	d := newDisk(t, "", "")
	l, e := wal.New(d)
	is(t, e, api.OK)
	return &model{d: d, l: l, at: map[string]string{}}
}

func (m *model) clone() *model {
	c := *m
	c.d = m.d.Clone()
	c.l = m.l.Clone(c.d)
	c.at = maps.Clone(m.at)
	return &c
}

// logged: what the log answers, which kills the store, if it is ErrDead.
func (m *model) logged(e api.Errno) api.Errno {
	m.dead = m.dead || e == api.ErrDead
	return e
}

func (m *model) sync() api.Errno {
	if m.dead {
		return api.ErrDead
	}
	return m.logged(m.l.Sync())
}

func (m *model) checkpoint() api.Errno {
	if m.dead {
		return api.ErrDead
	}
	var puts []string
	for _, p := range sorted(m.at) {
		puts = append(puts, thePut(p.Key, p.Value))
	}
	if len(puts) == 0 {
		return m.logged(m.l.Checkpoint(""))
	}
	return m.logged(m.l.Checkpoint(theImage(puts...)))
}

// modelTx is a transaction of it.
type modelTx struct {
	m    *model
	at   map[string]string
	done int
	over bool
}

func (m *model) begin() *modelTx { return &modelTx{m: m, at: maps.Clone(m.at), done: m.done} }

func (x *modelTx) put(key, value string) api.Errno {
	switch {
	case x.over:
		return api.ErrStoreDone
	case len(key) < 1 || len(key) > 64:
		return api.ErrStoreKey
	case len(value) > 4096:
		return api.ErrStoreLong
	}
	x.at[key] = value
	return api.OK
}

func (x *modelTx) delete(key string) api.Errno {
	switch {
	case x.over:
		return api.ErrStoreDone
	case len(key) < 1 || len(key) > 64:
		return api.ErrStoreKey
	}
	delete(x.at, key)
	return api.OK
}

func (x *modelTx) abort() { x.over, x.at = true, map[string]string{} }

// changes: their bytes, by rising keys.
func (x *modelTx) changes() []string {
	keys := map[string]int{}
	for key := range x.at {
		keys[key]++
	}
	for key := range x.m.at {
		keys[key]++
	}
	var l []string
	for _, key := range slices.Sorted(maps.Keys(keys)) {
		value, ok := x.at[key]
		old, was := x.m.at[key]
		switch {
		case ok && (!was || old != value):
			l = append(l, thePut(key, value))
		case !ok:
			l = append(l, theDelete(key))
		}
	}
	return l
}

func (x *modelTx) commit() api.Errno {
	m := x.m
	if x.over {
		return api.ErrStoreDone
	}
	x.over = true
	defer x.abort()
	if m.dead {
		return api.ErrDead
	}
	if x.done != m.done {
		return api.ErrStoreDone
	}
	changes := x.changes()
	if len(changes) == 0 {
		return api.OK
	}
	if len(changes) > 512 || len(theRecord(changes...)) > 65536 {
		return api.ErrStoreLong
	}
	if len(x.at) > 2048 || size(x.at) > 262144 {
		return api.ErrStoreFull
	}
	e := m.logged(m.l.Append(theRecord(changes...)))
	if e == api.ErrWalFull {
		if e = m.checkpoint(); e == api.OK {
			e = m.logged(m.l.Append(theRecord(changes...)))
		}
	}
	if e == api.OK {
		m.at, m.done = maps.Clone(x.at), m.done+1
	}
	return e
}

// twin is a store and its model, and their transactions: each call is made on both, which answer the same.
type twin struct {
	t   testing.TB
	s   *store.Store
	d   *disk.Disk
	m   *model
	txs []*store.Tx
	ms  []*modelTx
}

func newTwin(t testing.TB) *twin {
	t.Helper()
	s, d := newStore(t)
	return &twin{t: t, s: s, d: d, m: newModel(t)}
}

func (w *twin) clone() *twin {
	d := w.d.Clone()
	return &twin{t: w.t, s: w.s.Clone(d), d: d, m: w.m.clone()}
}

// same: store and model tell the same, and their disks have the same bytes, safe and unsafe ones.
func (w *twin) same() {
	w.t.Helper()
	tells(w.t, w.s, w.m.at, w.m.dead)
	files := w.m.d.Files()
	holds(w.t, w.d, files[0], files[1])
	if w.d.Waiting() != w.m.d.Waiting() || w.d.Dead() != w.m.d.Dead() || !slices.Equal(w.d.After(0), w.m.d.After(0)) {
		w.t.Errorf("%d unsafe bytes, %t; want %d, %t", w.d.Waiting(), w.d.Dead(), w.m.d.Waiting(), w.m.d.Dead())
	}
	for i, tx := range w.txs {
		has(w.t, tx, w.ms[i].at)
	}
}

func (w *twin) begin() int {
	w.txs, w.ms = append(w.txs, w.s.Begin()), append(w.ms, w.m.begin())
	return len(w.txs) - 1
}

func (w *twin) put(i int, key, value string) api.Errno {
	w.t.Helper()
	want := w.ms[i].put(key, value)
	is(w.t, w.txs[i].Put(key, value), want)
	return want
}

func (w *twin) delete(i int, key string) api.Errno {
	w.t.Helper()
	want := w.ms[i].delete(key)
	is(w.t, w.txs[i].Delete(key), want)
	return want
}

func (w *twin) commit(i int) api.Errno {
	w.t.Helper()
	want := w.ms[i].commit()
	is(w.t, w.txs[i].Commit(), want)
	w.same()
	return want
}

func (w *twin) abort(i int) {
	w.t.Helper()
	w.txs[i].Abort()
	w.ms[i].abort()
	w.same()
}

func (w *twin) sync() api.Errno {
	w.t.Helper()
	want := w.m.sync()
	is(w.t, w.s.Sync(), want)
	w.same()
	return want
}

func (w *twin) checkpoint() api.Errno {
	w.t.Helper()
	want := w.m.checkpoint()
	is(w.t, w.s.Checkpoint(), want)
	w.same()
	return want
}

// onDisks: what may come between the calls.
func (w *twin) onDisks(do func(d *disk.Disk)) {
	w.t.Helper()
	do(w.d)
	do(w.m.d)
	w.same()
}

// commits: a transaction of its own: keys and values by turns; deletes: likewise.
func (w *twin) commits(puts ...string) api.Errno {
	w.t.Helper()
	i := w.begin()
	for j := 0; j < len(puts); j += 2 {
		w.put(i, puts[j], puts[j+1])
	}
	return w.commit(i)
}

func (w *twin) deletes(keys ...string) api.Errno {
	w.t.Helper()
	i := w.begin()
	for _, key := range keys {
		w.delete(i, key)
	}
	return w.commit(i)
}

// drop: no more is looked at of its transactions.
func (w *twin) drop() { w.txs, w.ms = nil, nil }

// anyKey, anyValue: of a few, so that some are there already.
func anyKey(r *rand.Rand) string {
	return []string{"a", "b", "ab", "\xff", "\x00", "b\x00", "c"}[r.Intn(7)]
}

func anyValue(r *rand.Rand) string { return []string{"", "x", "yy", "\x00"}[r.Intn(4)] }

// anyStep: one of a store's calls, a transaction's, or what goes between them.
func (w *twin) anyStep(r *rand.Rand) {
	w.t.Helper()
	i := len(w.txs) - 1 - r.Intn(4)
	n := r.Intn(24)
	if i < 0 {
		n = r.Intn(4)
	}
	switch n {
	case 0, 1, 2:
		w.begin()
	case 3:
		w.onDisks(func(d *disk.Disk) {})
	case 4, 5, 6, 7, 8:
		w.put(i, anyKey(r), anyValue(r))
	case 9, 10:
		w.delete(i, anyKey(r))
	case 11:
		w.put(i, []string{"", strings.Repeat("k", 65), "k"}[r.Intn(3)], strings.Repeat("v", 4097))
	case 12, 13, 14, 15, 16:
		w.commit(i)
	case 17:
		w.abort(i)
	case 18, 19:
		w.sync()
	case 20:
		w.checkpoint()
	case 21:
		n, k := r.Intn(9), r.Intn(60)
		w.onDisks(func(d *disk.Disk) { d.Arm(n, k) })
	case 22:
		if k := r.Intn(40); k < 8 {
			w.onDisks(func(d *disk.Disk) { d.Crash(k) })
		}
	case 23:
		w.onDisks((*disk.Disk).Revive)
	}
}

// history is what a store may tell when it is opened behind a crash: the pairs that were synced last, and what each commit made of them since.
type history []map[string]string

// opened: the store that is opened on the disk of a crash, which must be of the history, and where in it; with the power going in the opening, too.
func (h history) opened(t testing.TB, d *disk.Disk) (*store.Store, int) {
	t.Helper()
	d.Revive()
	for n := 1; ; n++ {
		d.Arm(n, n)
		s, e := store.Open(d)
		if e == api.ErrDead && d.Dead() {
			d.Revive()
			continue
		}
		d.Arm(0, 0)
		if e != api.OK {
			t.Fatalf("Open: %d", e)
		}
		l := s.Scan("", all)
		at := slices.IndexFunc(h, func(m map[string]string) bool { return slices.Equal(l, sorted(m)) })
		if at < 0 {
			t.Fatalf("%.200q; want one of %.400q", l, fmt.Sprint(h))
		}
		tells(t, s, h[at], false)
		tells(t, opened(t, d), h[at], false)
		return s, at
	}
}

// step is a commit of changes (keys and values by turns; the value "-": a delete), or another call.
type step struct {
	name    string
	changes []string
}

func commit(changes ...string) step { return step{"Commit", changes} }

// on: what the step answers, and the history behind it.
func (c step) on(s *store.Store, h history) (history, api.Errno) {
	switch c.name {
	case "Sync":
		if e := s.Sync(); e != api.OK {
			return h, e
		}
		return h[len(h)-1:], api.OK
	case "Checkpoint":
		if e := s.Checkpoint(); e != api.OK {
			return h, e
		}
		return h[len(h)-1:], api.OK
	}
	tx := s.Begin()
	made := maps.Clone(h[len(h)-1])
	for i := 0; i < len(c.changes); i += 2 {
		if c.changes[i+1] == "-" {
			tx.Delete(c.changes[i])
			delete(made, c.changes[i])
		} else {
			tx.Put(c.changes[i], c.changes[i+1])
			made[c.changes[i]] = c.changes[i+1]
		}
	}
	e := tx.Commit()
	// A commit in which the power went is either done or not.
	return append(slices.Clone(h), made), e
}
