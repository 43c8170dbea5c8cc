package wal_test

import (
	"encoding/binary"
	"encoding/hex"
	"fmt"
	"hash/crc32"
	"math/rand"
	"slices"
	"strings"
	"testing"

	"seneschal/api"
	"seneschal/disk"
	"seneschal/wal"
)

// lastGeneration: the greatest one that may be.
const lastGeneration = 1 << 62

// bytesOf: those of digits of base sixteen, with blanks.
func bytesOf(digits string) string {
	b, err := hex.DecodeString(strings.ReplaceAll(digits, " ", ""))
	if err != nil {
		panic(err)
	}
	return string(b)
}

// rawFrame: a length, a sum and bytes, whether they fit or not.
func rawFrame(length, sum uint32, s string) string {
	b := binary.BigEndian.AppendUint32(nil, length)
	b = binary.BigEndian.AppendUint32(b, sum)
	return string(b) + s
}

// theFrame: that of bytes, with their sum as another program has it.
func theFrame(s string) string {
	return rawFrame(uint32(len(s)), crc32.ChecksumIEEE([]byte(s)), s)
}

// theHead: what a log's file begins with, ahead of its snapshot.
func theHead(generation uint64) string {
	return "SNL1" + string(binary.BigEndian.AppendUint64(nil, generation))
}

// theFile: a log's file.
func theFile(generation uint64, snapshot string, records ...string) string {
	s := theHead(generation) + theFrame(snapshot)
	for _, r := range records {
		s += theFrame(r)
	}
	return s
}

// newDisk: a disk with these bytes.
func newDisk(t testing.TB, a, b string) *disk.Disk {
	t.Helper()
	d, e := disk.New([]string{a, b})
	if e != api.OK {
		t.Fatalf("New of %d and %d bytes: %d", len(a), len(b), e)
	}
	return d
}

// newLog: one on a disk without bytes.
func newLog(t testing.TB) (*wal.Log, *disk.Disk) {
	t.Helper()
	d := newDisk(t, "", "")
	l, e := wal.New(d)
	if e != api.OK || l == nil {
		t.Fatalf("New: %v, %d", l, e)
	}
	return l, d
}

// is: an error is want.
func is(t testing.TB, e, want api.Errno) {
	t.Helper()
	if e != want {
		t.Errorf("%d; want %d", e, want)
	}
}

// holds: a disk's files have these bytes.
func holds(t testing.TB, d *disk.Disk, a, b string) {
	t.Helper()
	if l := d.Files(); l[0] != a || l[1] != b {
		t.Errorf("%.200x; want %.200x, %.200x", l, a, b)
	}
}

// tells: what a log tells.
func tells(t testing.TB, l *wal.Log, records, room int, dead bool) {
	t.Helper()
	if l.Records() != records || l.Room() != room || l.Dead() != dead {
		t.Errorf("%d, %d, %t; want %d, %d, %t", l.Records(), l.Room(), l.Dead(), records, room, dead)
	}
}

// opens: Open tells a snapshot and records, and the log has as many.
func opens(t testing.TB, d *disk.Disk, snapshot string, records ...string) *wal.Log {
	t.Helper()
	l, s, r, e := wal.Open(d)
	if e != api.OK || l == nil {
		t.Fatalf("Open: %v, %d", l, e)
	}
	if s != snapshot || !slices.Equal(r, records) {
		t.Errorf("Open: %.80q, %.80q; want %.80q, %.80q", s, r, snapshot, records)
	}
	if l.Records() != len(records) || l.Dead() {
		t.Errorf("Open: %d records, %t", l.Records(), l.Dead())
	}
	return l
}

// refuses: Open answers an error, and nothing else.
func refuses(t testing.TB, d *disk.Disk, want api.Errno) {
	t.Helper()
	l, s, r, e := wal.Open(d)
	if l != nil || s != "" || r != nil || e != want {
		t.Errorf("Open: %v, %.80q, %.80q, %d; want %d", l, s, r, e, want)
	}
}

// model is a log after the chapter's words, which lays its bytes on a disk of its own.
type model struct {
	d          *disk.Disk
	file       int
	generation uint64
	records    int
	dead       bool
}

// newModel: that of a log on a disk without bytes.
func newModel(t testing.TB) *model {
	t.Helper()
	d := newDisk(t, "", "")
	d.Append(0, theFile(1, ""))
	d.Sync()
	return &model{d: d, generation: 1}
}

func (m *model) clone() *model {
	c := *m
	c.d = m.d.Clone()
	return &c
}

// all: changes that are made in their order, up to the first in which the power goes.
func (m *model) all(changes ...func() api.Errno) api.Errno {
	if m.dead {
		return api.ErrDead
	}
	for _, c := range changes {
		if c() != api.OK {
			m.dead = true
			return api.ErrDead
		}
	}
	return api.OK
}

func (m *model) append(record string) api.Errno {
	size := m.d.Size(m.file)
	switch {
	case m.dead || m.d.Dead():
		m.dead = true
		return api.ErrDead
	case len(record) > 65536:
		return api.ErrWalLong
	case size+8+len(record) > 1048576:
		return api.ErrWalFull
	}
	e := m.all(func() api.Errno { return m.d.Append(m.file, theFrame(record)) })
	if e == api.OK {
		m.records++
	}
	return e
}

func (m *model) sync() api.Errno { return m.all(m.d.Sync) }

func (m *model) checkpoint(snapshot string) api.Errno {
	switch {
	case m.dead || m.d.Dead():
		m.dead = true
		return api.ErrDead
	case len(snapshot) > 524288:
		return api.ErrWalLong
	case m.generation == lastGeneration:
		return api.ErrWalFull
	}
	e := m.all(
		func() api.Errno { return m.d.Append(1-m.file, theFile(m.generation+1, snapshot)) },
		m.d.Sync,
		func() api.Errno { return m.d.Cut(m.file, 0) },
	)
	if e == api.OK {
		m.file, m.generation, m.records = 1-m.file, m.generation+1, 0
	}
	return e
}

// room: how long a record may be.
func (m *model) room() int {
	for n := 65536; n >= 0; n-- {
		if m.d.Size(m.file)+8+n <= 1048576 {
			return n
		}
	}
	return -1
}

// call is one of a log's calls that may change it, or of its disk's that may come between them.
type call struct {
	name string
	s    string
	n, k int
}

func (c call) String() string { return fmt.Sprintf("%s(%.80q, %d, %d)", c.name, c.s, c.n, c.k) }

// on: what the call answers on a log; onModel: on the model.
func (c call) on(l *wal.Log, d *disk.Disk) api.Errno {
	switch c.name {
	case "Append":
		return l.Append(c.s)
	case "Sync":
		return l.Sync()
	case "Checkpoint":
		return l.Checkpoint(c.s)
	}
	return c.onDisk(d)
}

func (c call) onModel(m *model) api.Errno {
	switch c.name {
	case "Append":
		return m.append(c.s)
	case "Sync":
		return m.sync()
	case "Checkpoint":
		return m.checkpoint(c.s)
	}
	return c.onDisk(m.d)
}

func (c call) onDisk(d *disk.Disk) api.Errno {
	switch c.name {
	case "Arm":
		return d.Arm(c.n, c.k)
	case "Crash":
		return d.Crash(c.k)
	}
	d.Revive()
	return api.OK
}

func appends(s string) call     { return call{name: "Append", s: s} }
func syncs() call               { return call{name: "Sync"} }
func checkpoints(s string) call { return call{name: "Checkpoint", s: s} }
func arms(n, k int) call        { return call{name: "Arm", n: n, k: k} }
func crashes(k int) call        { return call{name: "Crash", k: k} }
func revives() call             { return call{name: "Revive"} }

// both: a call on a log and on its model, which answer the same, and leave the same.
func both(t testing.TB, l *wal.Log, d *disk.Disk, m *model, c call) {
	t.Helper()
	if e, want := c.on(l, d), c.onModel(m); e != want {
		t.Errorf("%v: %d; want %d", c, e, want)
	}
	same(t, l, d, m)
}

// same: a log tells what its model tells, and their disks have the same bytes, safe and unsafe ones.
func same(t testing.TB, l *wal.Log, d *disk.Disk, m *model) {
	t.Helper()
	tells(t, l, m.records, m.room(), m.dead)
	files := m.d.Files()
	holds(t, d, files[0], files[1])
	if d.Waiting() != m.d.Waiting() || d.Dead() != m.d.Dead() {
		t.Errorf("%d unsafe bytes, %t; want %d, %t", d.Waiting(), d.Dead(), m.d.Waiting(), m.d.Dead())
	}
	for _, k := range []int{0, 1, d.Waiting() / 2, d.Waiting() - 1} {
		if !slices.Equal(d.After(k), m.d.After(k)) {
			t.Errorf("%d leaves %.80x; want %.80x", k, d.After(k), m.d.After(k))
		}
	}
}

// anyText: a short one, often empty.
func anyText(r *rand.Rand) string {
	b := make([]byte, r.Intn(5))
	r.Read(b)
	return string(b)
}

// anyCall: one of a log's, and, of its disk's, what goes between them.
func anyCall(r *rand.Rand) call {
	switch r.Intn(16) {
	case 0, 1, 2, 3, 4, 5:
		return appends(anyText(r))
	case 6, 7, 8:
		return syncs()
	case 9, 10, 11:
		return checkpoints(anyText(r))
	case 12, 13:
		return arms(r.Intn(8), r.Intn(40))
	case 14:
		return crashes(r.Intn(40))
	}
	return revives()
}

// state is a snapshot and records.
type state struct {
	snapshot string
	records  []string
}

func (s state) same(o state) bool {
	return s.snapshot == o.snapshot && slices.Equal(s.records, o.records)
}

// history is what a log may tell when it is opened behind a crash: the state that was synced last, and all that calls made of it since.
type history []state

// after: what it is behind a call that answered e.
func (h history) after(c call, e api.Errno) history {
	if e != api.OK && e != api.ErrDead {
		return h
	}
	last := h[len(h)-1]
	switch c.name {
	case "Append":
		return append(h, state{last.snapshot, append(slices.Clone(last.records), c.s)})
	case "Checkpoint":
		h = append(h, state{c.s, nil})
	}
	if e == api.OK {
		return h[len(h)-1:]
	}
	return h
}

// opened: what is told when the disk of a crash is opened, which must be of the history; with the power going in the opening, too.
func (h history) opened(t testing.TB, d *disk.Disk) (*wal.Log, state) {
	t.Helper()
	d.Revive()
	for n := 1; ; n++ {
		d.Arm(n, n)
		l, s, r, e := wal.Open(d)
		if e == api.ErrDead && d.Dead() {
			d.Revive()
			continue
		}
		d.Arm(0, 0)
		if e != api.OK || !slices.ContainsFunc(h, state{s, r}.same) {
			t.Fatalf("%q, %q, %d; want one of %q", s, r, e, h)
		}
		again, s2, r2, e := wal.Open(d)
		if e != api.OK || !(state{s, r}).same(state{s2, r2}) || again.Records() != len(r) {
			t.Errorf("opened again: %q, %q, %d; want %q, %q", s2, r2, e, s, r)
		}
		return l, state{s, r}
	}
}
