package disk_test

import (
	"math"
	"math/rand"
	"slices"
	"strings"
	"testing"

	"seneschal/api"
	"seneschal/disk"
)

// cell is a byte of a file.
type cell struct {
	file int
	byte byte
}

// model is a disk after the chapter's words, byte by byte.
type model struct {
	safe    [2][]byte
	row     []cell // the unsafe bytes
	dead    bool
	armed   bool
	n, k    int // what is armed
	changes int // that were since
}

func modelOf(a, b string) *model { return &model{safe: [2][]byte{[]byte(a), []byte(b)}} }

func (m *model) clone() *model {
	c := *m
	c.safe = [2][]byte{slices.Clone(m.safe[0]), slices.Clone(m.safe[1])}
	c.row = slices.Clone(m.row)
	return &c
}

// after: the files as k leaves them.
func (m *model) after(k int) []string {
	files := []string{string(m.safe[0]), string(m.safe[1])}
	for i, c := range m.row {
		if i < k {
			files[c.file] += string([]byte{c.byte})
		}
	}
	return files
}

func (m *model) files() []string { return m.after(len(m.row)) }

func (m *model) unsafeOf(f int) int {
	n := 0
	for _, c := range m.row {
		if c.file == f {
			n++
		}
	}
	return n
}

// settle: only what k leaves is there, all of it safe.
func (m *model) settle(k int) {
	files := m.after(k)
	m.safe = [2][]byte{[]byte(files[0]), []byte(files[1])}
	m.row = nil
}

// goes: the power goes in this change, or not.
func (m *model) goes() bool {
	m.changes++
	if !m.armed || m.changes < m.n {
		return false
	}
	m.settle(m.k)
	m.dead, m.armed = true, false
	return true
}

func (m *model) append(f int, s string) api.Errno {
	if m.dead {
		return api.ErrDead
	}
	if f != 0 && f != 1 {
		return api.ErrDiskFile
	}
	if len(m.files()[f])+len(s) > 1048576 {
		return api.ErrDiskFull
	}
	for i := range len(s) {
		m.row = append(m.row, cell{f, s[i]})
	}
	if m.goes() {
		return api.ErrDead
	}
	return api.OK
}

func (m *model) sync() api.Errno {
	if m.dead || m.goes() {
		return api.ErrDead
	}
	m.settle(len(m.row))
	return api.OK
}

func (m *model) cut(f, n int) api.Errno {
	if m.dead {
		return api.ErrDead
	}
	if f != 0 && f != 1 {
		return api.ErrDiskFile
	}
	if n < 0 || n > len(m.files()[f]) || m.unsafeOf(f) > 0 {
		return api.ErrDiskSize
	}
	if m.goes() {
		return api.ErrDead
	}
	m.safe[f] = m.safe[f][:n]
	return api.OK
}

func (m *model) arm(n, k int) api.Errno {
	if m.dead {
		return api.ErrDead
	}
	if n < 0 || k < 0 {
		return api.ErrArg
	}
	m.armed, m.n, m.k, m.changes = n > 0, n, k, 0
	return api.OK
}

func (m *model) crash(k int) api.Errno {
	if m.dead {
		return api.ErrDead
	}
	if k < 0 {
		return api.ErrArg
	}
	m.settle(k)
	m.dead, m.armed = true, false
	return api.OK
}

func (m *model) revive() { m.dead, m.armed = false, false }

// call is one of a disk's calls that may change it.
type call struct {
	name string
	f, n int
	s    string
}

// on: what the call answers on a disk; onModel: on the model.
func (c call) on(d *disk.Disk) api.Errno {
	switch c.name {
	case "Append":
		return d.Append(c.f, c.s)
	case "Sync":
		return d.Sync()
	case "Cut":
		return d.Cut(c.f, c.n)
	case "Arm":
		return d.Arm(c.f, c.n)
	case "Crash":
		return d.Crash(c.n)
	}
	d.Revive()
	return api.OK
}

func (c call) onModel(m *model) api.Errno {
	switch c.name {
	case "Append":
		return m.append(c.f, c.s)
	case "Sync":
		return m.sync()
	case "Cut":
		return m.cut(c.f, c.n)
	case "Arm":
		return m.arm(c.f, c.n)
	case "Crash":
		return m.crash(c.n)
	}
	m.revive()
	return api.OK
}

func appends(f int, s string) call { return call{name: "Append", f: f, s: s} }
func syncs() call                  { return call{name: "Sync"} }
func cuts(f, n int) call           { return call{name: "Cut", f: f, n: n} }
func arms(n, k int) call           { return call{name: "Arm", f: n, n: k} }
func crashes(k int) call           { return call{name: "Crash", n: k} }
func revives() call                { return call{name: "Revive"} }

// newDisk: a disk with these bytes.
func newDisk(t testing.TB, a, b string) *disk.Disk {
	t.Helper()
	d, e := disk.New([]string{a, b})
	if e != api.OK || d == nil {
		t.Fatalf("New of %d and %d bytes: %v, %d", len(a), len(b), d, e)
	}
	return d
}

// answers: a call answers want.
func answers(t testing.TB, d *disk.Disk, c call, want api.Errno) {
	t.Helper()
	if e := c.on(d); e != want {
		t.Errorf("%.80v: %d; want %d", c, e, want)
	}
}

// holds: a disk's files have these bytes, and so many are unsafe.
func holds(t testing.TB, d *disk.Disk, a, b string, waiting int) {
	t.Helper()
	if l := d.Files(); len(l) != 2 || l[0] != a || l[1] != b {
		t.Errorf("Files: %.80q; want %.80q, %.80q", l, a, b)
	}
	if n := d.Waiting(); n != waiting {
		t.Errorf("Waiting: %d; want %d", n, waiting)
	}
}

// leaves: what k leaves of a disk.
func leaves(t testing.TB, d *disk.Disk, k int, a, b string) {
	t.Helper()
	if l := d.After(k); len(l) != 2 || l[0] != a || l[1] != b {
		t.Errorf("After %d: %.80q; want %.80q, %.80q", k, l, a, b)
	}
}

// same: all that a disk tells is what the model tells.
func same(t testing.TB, d *disk.Disk, m *model) {
	t.Helper()
	files := m.files()
	holds(t, d, files[0], files[1], len(m.row))
	for f := range 2 {
		tells(t, d, m, f, len(files[f]), files[f])
	}
	for _, f := range []int{-1, 2, math.MinInt, math.MaxInt} {
		if n := d.Size(f); n != -1 {
			t.Errorf("Size %d: %d", f, n)
		}
		want := api.ErrDiskFile
		if m.dead {
			want = api.ErrDead
		}
		if s, e := d.Read(f); s != "" || e != want {
			t.Errorf("Read %d: %q, %d; want %d", f, s, e, want)
		}
	}
	for k := -1; k <= len(m.row)+1; k++ {
		l := m.after(k)
		leaves(t, d, k, l[0], l[1])
	}
	if d.Dead() != m.dead {
		t.Errorf("Dead: %t", !m.dead)
	}
}

// tells: what a disk tells of one file.
func tells(t testing.TB, d *disk.Disk, m *model, f, size int, bytes string) {
	t.Helper()
	if n := d.Size(f); n != size {
		t.Errorf("Size %d: %d; want %d", f, n, size)
	}
	e := api.OK
	if m.dead {
		bytes, e = "", api.ErrDead
	}
	if s, got := d.Read(f); s != bytes || got != e {
		t.Errorf("Read %d: %.80q, %d; want %.80q, %d", f, s, got, bytes, e)
	}
}

// both: a call on a disk and on its model, which answer the same.
func both(t testing.TB, d *disk.Disk, m *model, c call) {
	t.Helper()
	answers(t, d, c, c.onModel(m))
}

// anyCall: one of all kinds, whose numbers are mostly, but not always, near those that are right.
func anyCall(r *rand.Rand) call {
	f := r.Intn(2)
	if r.Intn(12) == 0 {
		f = r.Intn(5) - 2
	}
	n := r.Intn(9) - 1
	switch r.Intn(18) {
	case 0, 1, 2, 3, 4, 5:
		return appends(f, strings.Repeat(string(rune('a'+r.Intn(26))), r.Intn(4)))
	case 6, 7, 8:
		return syncs()
	case 9, 10, 11:
		return cuts(f, n)
	case 12, 13:
		return arms(r.Intn(7)-1, n)
	case 14:
		return crashes(n)
	}
	return revives()
}
