package wal_test

import (
	"fmt"
	"hash/crc32"
	"math/rand"
	"slices"
	"strings"
	"sync"
	"testing"
	"unsafe"

	"seneschal/api"
	"seneschal/wal"
)

func TestP101Examples(t *testing.T) {
	if n := wal.Sum("123456789"); n != 0xCBF43926 {
		t.Errorf("%X", n)
	}
	l, d := newLog(t)
	laid := bytesOf("53 4E 4C 31 00 00 00 00 00 00 00 01 00 00 00 00 00 00 00 00")
	record := bytesOf("00 00 00 01 E8 B7 BE 43 61")
	holds(t, d, laid, "")
	is(t, l.Append("a"), api.OK)
	holds(t, d, laid+record, "")
	torn := newDisk(t, laid+record+bytesOf("00 00 00"), "")
	opens(t, torn, "", "a")
	if torn.Size(0) != 29 {
		t.Errorf("%d bytes", torn.Size(0))
	}
	refuses(t, newDisk(t, "", ""), api.ErrWalForm)
	is(t, l.Checkpoint("s"), api.OK)
	if l.Records() != 0 || d.Size(0) != 0 || d.Size(1) != 21 {
		t.Errorf("%d, %d, %d", l.Records(), d.Size(0), d.Size(1))
	}
	is(t, l.Append(strings.Repeat("l", 65537)), api.ErrWalLong)
}

func TestP101ExampleOfABrokenCheckpoint(t *testing.T) {
	l, d := newLog(t)
	is(t, l.Append("safe"), api.OK)
	is(t, l.Sync(), api.OK)
	is(t, l.Append("unsafe"), api.OK)
	is(t, d.Arm(2, 0), api.OK)
	is(t, l.Checkpoint("s"), api.ErrDead)
	d.Revive()
	opens(t, d, "", "safe")
}

func TestP101Sum(t *testing.T) {
	for s, want := range map[string]uint32{"": 0, "a": 0xE8B7BE43, "\x00": 0xD202EF8D, "\xff\xff\xff\xff": 0xFFFFFFFF, "The quick brown fox jumps over the lazy dog": 0x414FA339} {
		if n := wal.Sum(s); n != want {
			t.Errorf("%q: %X; want %X", s, n, want)
		}
	}
	r := rand.New(rand.NewSource(101))
	for n := range 2000 {
		b := make([]byte, n)
		r.Read(b)
		// Each byte alone, first of all.
		if n < 256 {
			b = []byte{byte(n)}
		}
		if got, want := wal.Sum(string(b)), crc32.ChecksumIEEE(b); got != want {
			t.Errorf("%x: %X; want %X", b, got, want)
		}
	}
	long := strings.Repeat("long ", 200000)
	if wal.Sum(long) != crc32.ChecksumIEEE([]byte(long)) {
		t.Error("of a long text")
	}
}

// The sum, bit by bit, as the chapter's words have it.
func TestP101SumByBits(t *testing.T) {
	for _, s := range []string{"", "a", "abc", "\x80\x01", "123456789", "\x00\xff\x55\xaa"} {
		register := uint32(0xFFFFFFFF)
		for i := range len(s) {
			for bit := range 8 {
				low := register & 1
				register >>= 1
				if low != uint32(s[i]>>bit&1) {
					register ^= 0xEDB88320
				}
			}
		}
		if n := wal.Sum(s); n != ^register {
			t.Errorf("%q: %X; want %X", s, n, ^register)
		}
	}
}

func TestP101New(t *testing.T) {
	l, d := newLog(t)
	tells(t, l, 0, 65536, false)
	holds(t, d, theFile(1, ""), "")
	if d.Waiting() != 0 {
		t.Errorf("%d unsafe bytes", d.Waiting())
	}
	opens(t, d, "")
	// Of no bytes, though some were there once.
	d = newDisk(t, "x", "y")
	d.Cut(0, 0)
	d.Cut(1, 0)
	if l, e := wal.New(d); l == nil || e != api.OK {
		t.Errorf("%v, %d", l, e)
	}
}

func TestP101NewRefused(t *testing.T) {
	for _, files := range [][2]string{{"x", ""}, {"", "x"}, {"x", "y"}, {theFile(1, ""), ""}, {"", theFile(1, "")}} {
		d := newDisk(t, files[0], files[1])
		if l, e := wal.New(d); l != nil || e != api.ErrWalForm {
			t.Errorf("%q: %v, %d", files, l, e)
		}
		holds(t, d, files[0], files[1])
		d.Crash(0)
		if l, e := wal.New(d); l != nil || e != api.ErrDead {
			t.Errorf("%q, dead: %v, %d", files, l, e)
		}
	}
	d := newDisk(t, "", "")
	d.Append(1, "x")
	if l, e := wal.New(d); l != nil || e != api.ErrWalForm {
		t.Errorf("unsafe bytes: %v, %d", l, e)
	}
	d = newDisk(t, "", "")
	d.Crash(0)
	if l, e := wal.New(d); l != nil || e != api.ErrDead {
		t.Errorf("dead: %v, %d", l, e)
	}
	holds(t, d, "", "")
}

// One Append and one Sync: the power that goes in a third change does not go.
func TestP101NewBrokenOff(t *testing.T) {
	for n := 1; n <= 2; n++ {
		for k := range 22 {
			d := newDisk(t, "", "")
			d.Arm(n, k)
			if l, e := wal.New(d); l != nil || e != api.ErrDead {
				t.Errorf("%d, %d: %v, %d", n, k, l, e)
			}
			holds(t, d, theFile(1, "")[:min(k, 20)], "")
			refuses(t, d, api.ErrDead)
			d.Revive()
			if k >= 20 {
				opens(t, d, "")
			} else {
				refuses(t, d, api.ErrWalForm)
			}
		}
	}
	d := newDisk(t, "", "")
	d.Arm(3, 0)
	if l, e := wal.New(d); l == nil || e != api.OK {
		t.Errorf("%v, %d", l, e)
	}
	is(t, d.Append(0, ""), api.ErrDead)
}

func TestP102Open(t *testing.T) {
	full := strings.Repeat("s", 524288)
	long := strings.Repeat("r", 65536)
	for _, c := range []struct {
		snapshot string
		records  []string
	}{
		{"", nil},
		{"s", nil},
		{"", []string{""}},
		{"snap", []string{"a", "", "bc", "", ""}},
		{"SNL1", []string{theFile(9, "x", "y"), "\x00\xff"}},
		{full, []string{long, "x", long}},
	} {
		for f := range 2 {
			files := [2]string{}
			files[f] = theFile(7, c.snapshot, c.records...)
			d := newDisk(t, files[0], files[1])
			// Nothing is to be cut: no change is made.
			d.Arm(1, 0)
			l := opens(t, d, c.snapshot, c.records...)
			holds(t, d, files[0], files[1])
			is(t, d.Append(f, ""), api.ErrDead)
			d.Revive()
			is(t, l.Append("more"), api.OK)
			is(t, l.Append("end"), api.OK)
			tells(t, l, len(c.records)+2, min(65536, 1048576-8-d.Size(f)), false)
			opens(t, d, c.snapshot, append(slices.Clone(c.records), "more", "end")...)
		}
	}
}

func TestP102OpenRefused(t *testing.T) {
	good := theFile(5, "snap")
	bad := []string{
		"", "S", "SNL1", "SNL2" + good[4:], "snl1" + good[4:], " " + good, good[1:], "SNL1" + good,
		theFile(0, "snap"), theFile(lastGeneration+1, "snap"), theFile(1<<63, "snap"), theFile(1<<64-1, "snap"),
		theHead(5) + rawFrame(4, crc32.ChecksumIEEE([]byte("snap"))+1, "snap"),
		theHead(5) + rawFrame(3, crc32.ChecksumIEEE([]byte("snap")), "snap"),
		theHead(5) + rawFrame(5, crc32.ChecksumIEEE([]byte("snap")), "snap"),
		theHead(5) + rawFrame(1<<32-1, 0, "snap"),
		theHead(5) + rawFrame(1<<31, 0, "snap"),
		theHead(5) + theFrame(strings.Repeat("s", 524289)),
	}
	for n := range good {
		bad = append(bad, good[:n])
	}
	for i := 0; i < len(good); i++ {
		if i >= 4 && i < 12 {
			continue // another generation, maybe
		}
		b := []byte(good)
		b[i] ^= 4
		bad = append(bad, string(b))
	}
	for _, s := range bad {
		for _, files := range [][2]string{{s, ""}, {"", s}, {s, s}} {
			d := newDisk(t, files[0], files[1])
			refuses(t, d, api.ErrWalForm)
			holds(t, d, files[0], files[1])
		}
		// What doesn't count is cut to none.
		d := newDisk(t, s, theFile(1, "other", "r"))
		opens(t, d, "other", "r")
		holds(t, d, "", theFile(1, "other", "r"))
		d.Crash(0)
		refuses(t, d, api.ErrDead)
	}
}

func TestP102OpenOfTheDead(t *testing.T) {
	for _, s := range []string{"", "x", theFile(1, "")} {
		d := newDisk(t, s, "")
		d.Crash(0)
		refuses(t, d, api.ErrDead)
	}
}

func TestP102EachGeneration(t *testing.T) {
	for _, g := range []uint64{1, 2, 255, 256, 1<<32 - 1, 1 << 32, 1<<61 + 5, lastGeneration - 1, lastGeneration} {
		opens(t, newDisk(t, theFile(g, "s", "r"), ""), "s", "r")
		opens(t, newDisk(t, "", theFile(g, "s", "r")), "s", "r")
	}
}

func TestP102TheGreaterGeneration(t *testing.T) {
	for _, c := range []struct {
		a, b uint64
		file int
	}{
		{1, 2, 1}, {2, 1, 0}, {1, 1, 0}, {255, 256, 1}, {256, 255, 0}, {1 << 32, 1<<32 - 1, 0}, {1<<32 - 1, 1 << 32, 1},
		{lastGeneration, lastGeneration - 1, 0}, {lastGeneration - 1, lastGeneration, 1}, {lastGeneration, lastGeneration, 0},
		{lastGeneration + 1, 1, 1}, {1, 1 << 63, 0}, {0, 1, 1}, {1, 0, 0},
	} {
		files := []string{theFile(c.a, "a", "x"), theFile(c.b, "bb", "y", "z")}
		d := newDisk(t, files[0], files[1])
		want := []string{files[0], ""}
		if c.file == 1 {
			want = []string{"", files[1]}
			opens(t, d, "bb", "y", "z")
		} else {
			opens(t, d, "a", "x")
		}
		if !slices.Equal(d.Files(), want) {
			t.Errorf("%v: %q", c, d.Files())
		}
	}
}

// The next generation is the one behind the log's own, whatever the other file had.
func TestP102GoesOnFromItsGeneration(t *testing.T) {
	d := newDisk(t, theFile(1<<32-1, "a"), theFile(7, "b", "c"))
	l := opens(t, d, "a")
	is(t, l.Checkpoint("d"), api.OK)
	holds(t, d, "", theFile(1<<32, "d"))
}

// Records end where no whole frame stands; what is behind is cut off, whatever it is.
func TestP102TheEndOfTheRecords(t *testing.T) {
	whole := theFrame("record")
	var tails []string
	for n := 1; n < len(whole); n++ {
		tails = append(tails, whole[:n])
	}
	for i := range whole {
		b := []byte(whole)
		b[i] ^= 16
		tails = append(tails, string(b), string(b)+whole)
	}
	tails = append(tails,
		strings.Repeat("\x00", 7), "\xff", strings.Repeat("\xff", 100),
		rawFrame(0, 1, ""), rawFrame(1<<32-1, 0, ""), rawFrame(1<<31, 0, "x"),
		theFrame(strings.Repeat("l", 65537))+whole, theFrame(strings.Repeat("l", 524288)))
	for _, tail := range tails {
		for _, records := range [][]string{nil, {"a"}, {"", "b", strings.Repeat("l", 65536)}} {
			file := theFile(3, "snap", records...)
			d := newDisk(t, "", file+tail)
			d.Arm(2, 0)
			l := opens(t, d, "snap", records...)
			holds(t, d, "", file)
			// That was one change.
			is(t, d.Sync(), api.ErrDead)
			d.Revive()
			is(t, l.Append("record"), api.OK)
			opens(t, d, "snap", append(slices.Clone(records), "record")...)
		}
	}
}

// First the log's own file is cut, then the other one.
func TestP102BrokenOff(t *testing.T) {
	own, other := theFile(2, "own", "a"), theFile(1, "other", "b")
	for n := 1; n <= 2; n++ {
		for k := range 3 {
			d := newDisk(t, other, own+"torn")
			d.Arm(n, k)
			refuses(t, d, api.ErrDead)
			if n == 1 {
				holds(t, d, other, own+"torn")
			} else {
				holds(t, d, other, own)
			}
			d.Revive()
			opens(t, d, "own", "a")
			holds(t, d, "", own)
		}
	}
	d := newDisk(t, other, own)
	d.Arm(1, 0)
	refuses(t, d, api.ErrDead)
	holds(t, d, other, own)
	d.Revive()
	d.Arm(3, 0)
	d.Append(0, "")
	opens(t, d, "own", "a")
	is(t, d.Sync(), api.ErrDead)
}

// A log may be opened on a disk without a crash ahead of it: what is torn is cut off there, too.
func TestP102UnsafeBytes(t *testing.T) {
	l, d := newLog(t)
	is(t, l.Append("a"), api.OK)
	opens(t, d.Clone(), "", "a")
	d.Append(0, "torn")
	d.Append(1, "other")
	opens(t, d, "", "a")
	holds(t, d, theFile(1, "", "a"), "")
	d.Crash(0)
	holds(t, d, theFile(1, "", "a"), "")
}

func TestP103Append(t *testing.T) {
	l, d := newLog(t)
	m := newModel(t)
	for _, s := range []string{"a", "", "bc", "\x00\xff", strings.Repeat("l", 65535), strings.Repeat("l", 65536), "SNL1", "z"} {
		both(t, l, d, m, appends(s))
	}
	opens(t, d.Clone(), "", "a", "", "bc", "\x00\xff", strings.Repeat("l", 65535), strings.Repeat("l", 65536), "SNL1", "z")
	// Nothing is safe ahead of a Sync.
	if files := d.After(0); files[0] != theFile(1, "") {
		t.Errorf("%.80x", files[0])
	}
	both(t, l, d, m, syncs())
	if d.Waiting() != 0 {
		t.Errorf("%d unsafe bytes", d.Waiting())
	}
}

func TestP103AppendRefused(t *testing.T) {
	l, d := newLog(t)
	m := newModel(t)
	for _, n := range []int{65537, 65538, 524288, 1048576, 3000000} {
		both(t, l, d, m, appends(strings.Repeat("l", n)))
		is(t, l.Append(strings.Repeat("l", n)), api.ErrWalLong)
	}
	tells(t, l, 0, 65536, false)
}

// A file is filled up to its last byte; a record that is too long is so there, too.
func TestP103Full(t *testing.T) {
	l, d := newLog(t)
	m := newModel(t)
	for range 15 {
		both(t, l, d, m, appends(strings.Repeat("l", 65536)))
	}
	both(t, l, d, m, appends(strings.Repeat("l", 65300)))
	left := 1048576 - d.Size(0) - 8
	tells(t, l, 16, left, false)
	both(t, l, d, m, appends(strings.Repeat("m", left+1)))
	is(t, l.Append(strings.Repeat("m", left+1)), api.ErrWalFull)
	is(t, l.Append(strings.Repeat("m", 65537)), api.ErrWalLong)
	full, c := l.Clone(d.Clone()), d.Clone()
	both(t, l, d, m, appends(strings.Repeat("m", left-9)))
	tells(t, l, 17, 1, false)
	both(t, l, d, m, appends("xy"))
	both(t, l, d, m, appends("x"))
	tells(t, l, 18, -1, false)
	both(t, l, d, m, appends(""))
	is(t, l.Append(""), api.ErrWalFull)
	both(t, l, d, m, syncs())
	both(t, l, d, m, checkpoints("anew"))
	tells(t, l, 0, 65536, false)
	both(t, l, d, m, appends("x"))
	// To its end at once, and with an empty record.
	full = full.Clone(c)
	is(t, full.Append(strings.Repeat("m", left-8)), api.OK)
	tells(t, full, 17, 0, false)
	is(t, full.Append("x"), api.ErrWalFull)
	is(t, full.Append(""), api.OK)
	tells(t, full, 18, -1, false)
	if c.Size(0) != 1048576 {
		t.Errorf("%d", c.Size(0))
	}
}

func TestP103Sync(t *testing.T) {
	l, d := newLog(t)
	m := newModel(t)
	for _, c := range []call{syncs(), appends("a"), syncs(), appends("b"), appends("c"), syncs(), syncs(), arms(2, 0), syncs(), syncs()} {
		both(t, l, d, m, c)
	}
	if !l.Dead() {
		t.Error("not dead")
	}
}

func TestP103Checkpoint(t *testing.T) {
	l, d := newLog(t)
	m := newModel(t)
	full := strings.Repeat("s", 524288)
	for i, s := range []string{"", "s", full, "", "\x00", "SNL1"} {
		both(t, l, d, m, appends("unsafe"))
		both(t, l, d, m, checkpoints(s))
		files := [2]string{}
		files[(i+1)%2] = theFile(uint64(i)+2, s)
		holds(t, d, files[0], files[1])
		if d.Waiting() != 0 || l.Records() != 0 {
			t.Errorf("%d, %d", d.Waiting(), l.Records())
		}
		opens(t, d.Clone(), s)
		both(t, l, d, m, appends("more"))
		opens(t, d.Clone(), s, "more")
	}
}

func TestP103CheckpointRefused(t *testing.T) {
	l, d := newLog(t)
	m := newModel(t)
	both(t, l, d, m, appends("a"))
	for _, n := range []int{524289, 1048576, 3000000} {
		both(t, l, d, m, checkpoints(strings.Repeat("s", n)))
		is(t, l.Checkpoint(strings.Repeat("s", n)), api.ErrWalLong)
	}
	tells(t, l, 1, 65536, false)
}

// The last generation has none behind it; what is too long is so there, too.
func TestP103TheLastGeneration(t *testing.T) {
	d := newDisk(t, theFile(lastGeneration-1, "s"), "")
	l := opens(t, d, "s")
	is(t, l.Checkpoint("t"), api.OK)
	holds(t, d, "", theFile(lastGeneration, "t"))
	for range 2 {
		is(t, l.Checkpoint("u"), api.ErrWalFull)
		is(t, l.Checkpoint(strings.Repeat("s", 524289)), api.ErrWalLong)
		is(t, l.Append("r"), api.OK)
		is(t, l.Sync(), api.OK)
	}
	holds(t, d, "", theFile(lastGeneration, "t", "r", "r"))
	l = opens(t, d, "t", "r", "r")
	is(t, l.Checkpoint("u"), api.ErrWalFull)
	d.Crash(0)
	is(t, l.Checkpoint("u"), api.ErrDead)
}

// Whatever answers ErrDead leaves the log dead, also when the disk lives again; the dead refuse each call so, whatever else is wrong.
func TestP103TheDead(t *testing.T) {
	long := strings.Repeat("l", 524289)
	for _, first := range []call{appends("x"), appends(""), syncs(), checkpoints("x"), appends(long), checkpoints(long)} {
		l, d := newLog(t)
		m := newModel(t)
		both(t, l, d, m, appends("a"))
		both(t, l, d, m, crashes(3))
		// The log has not been asked yet.
		tells(t, l, 1, 65536, false)
		both(t, l, d, m, first)
		if !l.Dead() {
			t.Errorf("%v: not dead", first)
		}
		for _, c := range []call{revives(), appends("x"), syncs(), checkpoints("y"), appends(long), checkpoints(long)} {
			both(t, l, d, m, c)
			if c.name != "Revive" {
				is(t, c.on(l, d), api.ErrDead)
			}
		}
		holds(t, d, theFile(1, "")+theFrame("a")[:3], "")
		tells(t, l, 1, 65536, true)
	}
}

// The power goes in each change of each call, with each part of the unsafe bytes left.
func TestP103BrokenOff(t *testing.T) {
	for _, c := range []struct {
		call
		changes int
	}{{appends("abc"), 1}, {appends(""), 1}, {syncs(), 1}, {checkpoints("snap"), 3}, {checkpoints(""), 3}} {
		for n := 1; n <= c.changes+1; n++ {
			for k := range 50 {
				l, d := newLog(t)
				m := newModel(t)
				both(t, l, d, m, appends("before"))
				both(t, l, d, m, arms(n, k))
				both(t, l, d, m, c.call)
				if l.Dead() != (n <= c.changes) || d.Dead() != l.Dead() {
					t.Errorf("%v, %d, %d: %t", c, n, k, l.Dead())
				}
				if l.Dead() {
					// The change that was broken off isn't counted.
					if l.Records() != 1 {
						t.Errorf("%v, %d, %d: %d records", c, n, k, l.Records())
					}
					both(t, l, d, m, revives())
				}
				both(t, l, d, m, appends("behind"))
			}
		}
	}
}

func TestP104RecordsAndRoom(t *testing.T) {
	l, d := newLog(t)
	for n := range 20 {
		tells(t, l, n, min(65536, 1048576-d.Size(0)-8), false)
		l.Append(strings.Repeat("r", n*3000))
	}
	for range 9 {
		l.Append(strings.Repeat("r", 50000))
	}
	// Room is what Append takes, and no more.
	for l.Room() >= 0 {
		room := l.Room()
		if room < 65536 {
			is(t, l.Append(strings.Repeat("r", room+1)), api.ErrWalFull)
		}
		is(t, l.Append(strings.Repeat("r", (room+1)/2)), api.OK)
	}
	is(t, l.Append(""), api.ErrWalFull)
	if d.Size(0) <= 1048576-8 {
		t.Errorf("%d", d.Size(0))
	}
}

// A dead log tells its room by the bytes that are left of its file.
func TestP104RoomOfTheDead(t *testing.T) {
	l, d := newLog(t)
	for range 15 {
		is(t, l.Append(strings.Repeat("l", 65536)), api.OK)
	}
	is(t, l.Sync(), api.OK)
	room := 1048576 - d.Size(0) - 8
	tells(t, l, 15, room, false)
	is(t, l.Append(strings.Repeat("m", 1000)), api.OK)
	tells(t, l, 16, room-1008, false)
	is(t, d.Arm(1, 1010), api.OK)
	is(t, l.Append(strings.Repeat("n", 1000)), api.ErrDead)
	tells(t, l, 16, room-1010, true)
	is(t, l.Sync(), api.ErrDead)
	tells(t, l, 16, room-1010, true)
}

func TestP104Dead(t *testing.T) {
	l, d := newLog(t)
	for _, c := range []call{appends(strings.Repeat("l", 65537)), checkpoints(strings.Repeat("l", 524289)), appends(""), syncs(), checkpoints("")} {
		c.on(l, d)
		if l.Dead() {
			t.Errorf("%v: dead", c)
		}
	}
	d.Arm(1, 0)
	is(t, l.Append("x"), api.ErrDead)
	if !l.Dead() || !l.Clone(d.Clone()).Dead() {
		t.Error("not dead")
	}
}

func TestP104Clone(t *testing.T) {
	l, d := newLog(t)
	m := newModel(t)
	for _, c := range []call{appends("a"), checkpoints("s"), appends("b"), syncs(), appends("c")} {
		both(t, l, d, m, c)
	}
	d2, m2 := d.Clone(), m.clone()
	l2 := l.Clone(d2)
	same(t, l2, d2, m2)
	both(t, l2, d2, m2, appends("d"))
	same(t, l, d, m)
	both(t, l, d, m, checkpoints("t"))
	same(t, l2, d2, m2)
	both(t, l2, d2, m2, crashes(0))
	both(t, l2, d2, m2, syncs())
	same(t, l, d, m)
	both(t, l, d, m, appends("e"))
	d3, m3 := d2.Clone(), m2.clone()
	l3 := l2.Clone(d3)
	same(t, l3, d3, m3)
	both(t, l3, d3, m3, revives())
	both(t, l3, d3, m3, appends("f"))
	opens(t, d3, "s", "b")
	opens(t, d, "t", "e")
}

func TestR7Clones(t *testing.T) {
	r := rand.New(rand.NewSource(107))
	for range 200 {
		l, d := newLog(t)
		m := newModel(t)
		for range 10 {
			both(t, l, d, m, anyCall(r))
			d2, m2 := d.Clone(), m.clone()
			l2 := l.Clone(d2)
			for range 4 {
				both(t, l2, d2, m2, anyCall(r))
			}
			same(t, l, d, m)
			both(t, l, d, m, anyCall(r))
			same(t, l2, d2, m2)
		}
		if t.Failed() {
			return
		}
	}
}

// Calls of all kinds, in any order, also while others arm, crash and revive the disk.
func TestP105ManyCalls(t *testing.T) {
	r := rand.New(rand.NewSource(105))
	for range 1000 {
		l, d := newLog(t)
		m := newModel(t)
		for range 40 {
			both(t, l, d, m, anyCall(r))
		}
		if t.Failed() {
			return
		}
	}
}

// Where others change the disk nothing is promised, but that each call ends and none panics.
func TestP105OthersChangeTheDisk(t *testing.T) {
	r := rand.New(rand.NewSource(1050))
	for range 2000 {
		l, d := newLog(t)
		for range 20 {
			f := r.Intn(2)
			switch r.Intn(8) {
			case 0:
				d.Append(f, anyText(r))
			case 1:
				d.Append(f, strings.Repeat("x", 1048576-d.Size(f)))
			case 2:
				d.Cut(f, r.Intn(d.Size(f)+1))
			case 3:
				d.Append(f, theFile(uint64(r.Intn(4)), anyText(r), anyText(r)))
			case 4:
				if other, _, _, e := wal.Open(d); e == api.OK {
					l = other
				}
			default:
				anyCall(r).on(l, d)
			}
			l.Records()
			l.Room()
			l.Dead()
			l = l.Clone(d)
		}
	}
}

// Each row of a few calls, the power going in each change, with each part of the unsafe bytes left.
func TestP106EachRowOfCalls(t *testing.T) {
	calls := []call{appends("a"), appends(""), syncs(), checkpoints("s"), checkpoints("")}
	var rows [][]call
	for _, a := range calls {
		for _, b := range calls {
			for _, c := range calls {
				rows = append(rows, []call{a, b, c}, []call{appends("f"), a, b, c})
			}
		}
	}
	for _, row := range rows {
		for n := 1; ; n++ {
			if !eachK(t, row, n) {
				break
			}
		}
		if t.Failed() {
			return
		}
	}
}

// eachK: a row of calls, with the power going in the n-th change, and each part left; did it go?
func eachK(t *testing.T, row []call, n int) bool {
	t.Helper()
	most := 0
	for k := 0; k <= most+1; k++ {
		l, d := newLog(t)
		h := history{{}}
		d.Arm(n, k)
		for _, c := range row {
			most = max(most, d.Waiting()+30)
			h = h.after(c, c.on(l, d))
			if d.Dead() {
				break
			}
		}
		if !d.Dead() {
			return false
		}
		h.opened(t, d)
	}
	return true
}

// Behind each call the power goes, with each part left.
func TestP106BetweenTwoCalls(t *testing.T) {
	r := rand.New(rand.NewSource(1060))
	for range 300 {
		l, d := newLog(t)
		h := history{{}}
		for range 12 {
			c := []call{appends(anyText(r)), appends(anyText(r)), syncs(), checkpoints(anyText(r))}[r.Intn(4)]
			h = h.after(c, c.on(l, d))
			last := -1
			for k := range d.Waiting() + 2 {
				crashed := d.Clone()
				crashed.Crash(k)
				// More bytes leave as many calls, or more.
				_, s := h.opened(t, crashed)
				at := slices.IndexFunc(h[max(last, 0):], s.same)
				if at < 0 {
					t.Fatalf("%d leaves less than %d did", k, k-1)
				}
				last = max(last, 0) + at
			}
			if !h[last].same(h[len(h)-1]) {
				t.Errorf("all bytes leave %q; want %q", h[last], h[len(h)-1])
			}
		}
	}
}

// Logs that go on behind a crash, and another one.
func TestP106CrashBehindCrash(t *testing.T) {
	r := rand.New(rand.NewSource(1061))
	for range 500 {
		l, d := newLog(t)
		h := history{{}}
		for range 60 {
			if r.Intn(5) == 0 {
				d.Arm(1+r.Intn(5), r.Intn(60))
			}
			c := []call{appends(anyText(r)), appends(anyText(r)), appends("longer " + anyText(r)), syncs(), checkpoints(anyText(r))}[r.Intn(5)]
			h = h.after(c, c.on(l, d))
			if r.Intn(12) == 0 {
				d.Crash(r.Intn(40))
			}
			if d.Dead() {
				var s state
				l, s = h.opened(t, d)
				h = history{s}
			}
		}
	}
}

func FuzzR1EndsAtAnything(f *testing.F) {
	f.Add(theFile(1, "s", "a", "b"), theFile(2, "t", "c")+"torn", []byte{0, 1, 2, 3, 4, 5, 6})
	f.Add(theFile(lastGeneration, "", ""), "", []byte{2, 2, 0, 0, 1, 64})
	f.Add("", theHead(1)+rawFrame(1<<32-1, 0, ""), []byte{})
	f.Fuzz(func(t *testing.T, a, b string, bytes []byte) {
		if len(a)+len(b) > 5000 || len(bytes) > 50 {
			return
		}
		d := newDisk(t, a, b)
		wal.Sum(a)
		l, s, records, e := wal.Open(d)
		if e != api.OK {
			refuses(t, d, api.ErrWalForm)
			holds(t, d, a, b)
			return
		}
		// What is left is what was told, and nothing else.
		files := d.Files()
		file := files[0] + files[1]
		if len(files[0])*len(files[1]) != 0 || len(file) < 12 || file[12:] != theFile(1, s, records...)[12:] {
			t.Errorf("%q, %q: %q", s, records, files)
		}
		opens(t, d, s, records...)
		h := history{{s, records}}
		for _, n := range bytes {
			if n >= 128 {
				d.Arm(int(n)&3, int(n)>>2&31)
			}
			c := []call{appends(a[:min(len(a), int(n))]), syncs(), checkpoints(b[:min(len(b), int(n))]), appends("")}[n&3]
			h = h.after(c, c.on(l, d))
			if d.Dead() {
				l, h[0] = h.opened(t, d)
				h = h[:1]
			}
		}
	})
}

// R4: what is handed in may change behind a call, and what is answered is the caller's.
func TestR4NothingIsShared(t *testing.T) {
	l, d := newLog(t)
	record, snapshot := []byte("abc"), []byte("def")
	is(t, l.Checkpoint(unsafe.String(&snapshot[0], len(snapshot))), api.OK)
	is(t, l.Append(unsafe.String(&record[0], len(record))), api.OK)
	is(t, l.Append("x"), api.OK)
	record[0], snapshot[0] = 'X', 'Y'
	want := []string{"abc", "x"}
	_, _, records, _ := wal.Open(d)
	if !slices.Equal(records, want) {
		t.Fatalf("%q", records)
	}
	records[0] = "other"
	records = append(records[:1], "another")
	opens(t, d, "def", want...)
	if l.Records() != 2 || records[1] != "another" {
		t.Errorf("%d, %q", l.Records(), records)
	}
}

// R5: what one log is asked hangs on no other one.
func TestR5NothingIsKept(t *testing.T) {
	var g sync.WaitGroup
	answers := make([]string, 8)
	for i := range answers {
		g.Go(func() {
			r := rand.New(rand.NewSource(int64(i % 2)))
			l, d := newLog(t)
			m := newModel(t)
			for range 300 {
				both(t, l, d, m, anyCall(r))
			}
			d.Revive()
			_, s, records, e := wal.Open(d)
			answers[i] = fmt.Sprintf("%q %q %d %d", s, records, e, wal.Sum(s))
		})
	}
	g.Wait()
	for i := range answers {
		if answers[i] != answers[i%2] {
			t.Errorf("%s; %s", answers[i], answers[i%2])
		}
	}
}

// Many records are as good as few.
func TestP102ManyRecords(t *testing.T) {
	l, d := newLog(t)
	for l.Append("") == api.OK {
	}
	n := (1048576 - 20) / 8
	tells(t, l, n, -1, false)
	opens(t, d, "", make([]string, n)...)
}
