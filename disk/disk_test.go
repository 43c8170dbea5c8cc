package disk_test

import (
	"math"
	"math/rand"
	"slices"
	"strings"
	"sync"
	"testing"
	"unsafe"

	"seneschal/api"
	"seneschal/disk"
)

func TestP91Examples(t *testing.T) {
	for _, files := range [][]string{{"a"}, {"a", "b", "c"}} {
		if d, e := disk.New(files); d != nil || e != api.ErrDiskFile {
			t.Errorf("%q: %v, %d", files, d, e)
		}
	}
	d := newDisk(t, "a", "")
	answers(t, d, appends(0, "bc"), api.OK)
	answers(t, d, appends(1, "x"), api.OK)
	answers(t, d, appends(0, "d"), api.OK)
	holds(t, d, "abcd", "x", 4)
	leaves(t, d, 0, "a", "")
	leaves(t, d, 1, "ab", "")
	leaves(t, d, 3, "abc", "x")
	leaves(t, d, 9, "abcd", "x")
	answers(t, d, cuts(0, 1), api.ErrDiskSize)
	answers(t, d, syncs(), api.OK)
	answers(t, d, cuts(0, 1), api.OK)
	answers(t, d, cuts(0, 2), api.ErrDiskSize)
	answers(t, d, arms(2, 1), api.OK)
	answers(t, d, appends(0, "pq"), api.OK)
	answers(t, d, appends(1, "r"), api.ErrDead)
	if s, e := d.Read(0); s != "" || e != api.ErrDead {
		t.Errorf("%q, %d", s, e)
	}
	holds(t, d, "ap", "x", 0)
}

func TestP91New(t *testing.T) {
	full := strings.Repeat("f", 1048576)
	for _, files := range [][]string{{"", ""}, {"a", "bc"}, {"", "\x00\xff\n"}, {full, ""}, {"", full}, {full, full}} {
		d := newDisk(t, files[0], files[1])
		same(t, d, modelOf(files[0], files[1]))
		leaves(t, d, 0, files[0], files[1])
	}
}

func TestP91NewRefused(t *testing.T) {
	long := strings.Repeat("l", 1048577)
	for _, c := range []struct {
		files []string
		want  api.Errno
	}{
		{nil, api.ErrDiskFile},
		{[]string{}, api.ErrDiskFile},
		{[]string{""}, api.ErrDiskFile},
		{[]string{"", "", ""}, api.ErrDiskFile},
		{make([]string, 1000), api.ErrDiskFile},
		{[]string{long}, api.ErrDiskFile},
		{[]string{"", "", long}, api.ErrDiskFile},
		{[]string{long, long, long}, api.ErrDiskFile},
		{[]string{long, ""}, api.ErrDiskFull},
		{[]string{"", long}, api.ErrDiskFull},
		{[]string{long, long}, api.ErrDiskFull},
	} {
		if d, e := disk.New(c.files); d != nil || e != c.want {
			t.Errorf("%d files: %v, %d; want %d", len(c.files), d != nil, e, c.want)
		}
	}
}

// The files are told by their places, also while some bytes are unsafe and while the power is gone.
func TestP92WhatIsTold(t *testing.T) {
	d, m := newDisk(t, "first", "2nd"), modelOf("first", "2nd")
	for _, c := range []call{appends(1, "more"), appends(0, "m"), appends(0, ""), appends(1, "e"), crashes(3), revives(), appends(0, "x"), syncs(), crashes(0)} {
		same(t, d, m)
		both(t, d, m, c)
	}
	same(t, d, m)
}

// To be asked changes nothing, nor does it count as a change.
func TestP92AskingChangesNothing(t *testing.T) {
	d, m := newDisk(t, "a", "b"), modelOf("a", "b")
	both(t, d, m, arms(2, 1))
	both(t, d, m, appends(0, "cd"))
	same(t, d, m)
	same(t, d, m)
	d.Clone().Crash(0)
	same(t, d, m)
	both(t, d, m, appends(1, "e"))
	same(t, d, m)
	holds(t, d, "ac", "b", 0)
}

func TestP92AfterAnyK(t *testing.T) {
	d := newDisk(t, "a", "b")
	answers(t, d, appends(1, "xy"), api.OK)
	answers(t, d, appends(0, "z"), api.OK)
	for _, k := range []int{0, -1, math.MinInt} {
		leaves(t, d, k, "a", "b")
	}
	leaves(t, d, 1, "a", "bx")
	leaves(t, d, 2, "a", "bxy")
	for _, k := range []int{3, 4, math.MaxInt} {
		leaves(t, d, k, "az", "bxy")
	}
}

func TestP93Append(t *testing.T) {
	d, m := newDisk(t, "", "b"), modelOf("", "b")
	for _, c := range []call{
		appends(0, "a"), appends(1, ""), appends(0, "\x00\xff"), appends(1, "long "+strings.Repeat("l", 100)),
		appends(1, "again"), appends(0, ""), appends(0, "é"), syncs(), appends(0, "z"), appends(1, "z"), appends(1, "y"), appends(0, "x"),
	} {
		both(t, d, m, c)
		same(t, d, m)
	}
}

func TestP93AppendRefused(t *testing.T) {
	d, m := newDisk(t, "a", "b"), modelOf("a", "b")
	answers(t, d, appends(1, strings.Repeat("l", 1048576)), api.ErrDiskFull)
	for _, f := range []int{-1, 2, math.MinInt, math.MaxInt} {
		answers(t, d, appends(f, "x"), api.ErrDiskFile)
		answers(t, d, appends(f, strings.Repeat("l", 1048577)), api.ErrDiskFile)
		answers(t, d, appends(f, ""), api.ErrDiskFile)
	}
	same(t, d, m)
}

// What is unsafe fills a file, too; a full one takes an empty text.
func TestP93AppendToTheFull(t *testing.T) {
	for f := range 2 {
		d := newDisk(t, "a", "b")
		answers(t, d, appends(f, strings.Repeat("l", 1048574)), api.OK)
		answers(t, d, appends(f, "xy"), api.ErrDiskFull)
		answers(t, d, appends(f, "x"), api.OK)
		answers(t, d, appends(f, "y"), api.ErrDiskFull)
		answers(t, d, appends(f, ""), api.OK)
		answers(t, d, appends(1-f, "y"), api.OK)
		if d.Size(f) != 1048576 || d.Size(1-f) != 2 || d.Waiting() != 1048576 {
			t.Errorf("%d, %d, %d", d.Size(f), d.Size(1-f), d.Waiting())
		}
		answers(t, d, syncs(), api.OK)
		answers(t, d, appends(f, "y"), api.ErrDiskFull)
		answers(t, d, cuts(f, 1048575), api.OK)
		answers(t, d, appends(f, "y"), api.OK)
		answers(t, d, appends(f, "y"), api.ErrDiskFull)
	}
}

func TestP93Sync(t *testing.T) {
	d, m := newDisk(t, "", ""), modelOf("", "")
	for _, c := range []call{syncs(), appends(1, "b"), appends(0, "a"), syncs(), syncs(), appends(0, "c"), crashes(0), revives(), syncs()} {
		both(t, d, m, c)
		same(t, d, m)
	}
	holds(t, d, "a", "b", 0)
}

func TestP93Cut(t *testing.T) {
	for f := range 2 {
		for n := -2; n <= 6; n++ {
			d, m := newDisk(t, "abcd", "efgh"), modelOf("abcd", "efgh")
			both(t, d, m, cuts(f, n))
			same(t, d, m)
			// What is laid behind takes the place of what was cut off.
			both(t, d, m, appends(f, "xy"))
			same(t, d, m)
			both(t, d, m, cuts(f, n))
			same(t, d, m)
			both(t, d, m, crashes(1))
			same(t, d, m)
		}
	}
}

func TestP93CutRefused(t *testing.T) {
	d, m := newDisk(t, "abc", ""), modelOf("abc", "")
	for _, n := range []int{-1, 4, math.MinInt, math.MaxInt} {
		answers(t, d, cuts(0, n), api.ErrDiskSize)
	}
	answers(t, d, cuts(1, 1), api.ErrDiskSize)
	for _, f := range []int{-1, 2, math.MinInt, math.MaxInt} {
		answers(t, d, cuts(f, 0), api.ErrDiskFile)
		answers(t, d, cuts(f, -1), api.ErrDiskFile)
	}
	same(t, d, m)
}

// A file's own unsafe bytes are in the way of a cut, at its end too; those of the other one aren't, and stay unsafe.
func TestP93CutBesideUnsafeBytes(t *testing.T) {
	for f := range 2 {
		d, m := newDisk(t, "abc", "abc"), modelOf("abc", "abc")
		both(t, d, m, appends(1-f, "xyz"))
		both(t, d, m, appends(f, ""))
		answers(t, d, cuts(1-f, 1), api.ErrDiskSize)
		answers(t, d, cuts(1-f, 3), api.ErrDiskSize)
		answers(t, d, cuts(1-f, 6), api.ErrDiskSize)
		both(t, d, m, cuts(f, 2))
		same(t, d, m)
		if d.Waiting() != 3 || d.Size(f) != 2 {
			t.Errorf("%d, %d", d.Waiting(), d.Size(f))
		}
		both(t, d, m, cuts(f, 2))
		both(t, d, m, cuts(f, 0))
		both(t, d, m, appends(f, "q"))
		both(t, d, m, appends(1-f, "r"))
		same(t, d, m)
	}
}

// A cut is safe at once: no crash brings back what was cut off.
func TestP93CutIsSafe(t *testing.T) {
	d := newDisk(t, "abc", "")
	answers(t, d, appends(1, "x"), api.OK)
	answers(t, d, cuts(0, 1), api.OK)
	answers(t, d, crashes(0), api.OK)
	holds(t, d, "a", "", 0)
}

func TestP94ArmInAnAppend(t *testing.T) {
	for k := range 6 {
		d, m := newDisk(t, "a", "b"), modelOf("a", "b")
		both(t, d, m, appends(1, "c"))
		both(t, d, m, arms(1, k))
		same(t, d, m)
		answers(t, d, appends(0, "def"), api.ErrDead)
		m.append(0, "def")
		same(t, d, m)
		if !d.Dead() {
			t.Error("not dead")
		}
	}
}

// A Sync and a Cut in which the power goes have done nothing.
func TestP94ArmInASyncAndACut(t *testing.T) {
	for k := range 4 {
		for _, c := range []call{syncs(), cuts(1, 0), cuts(1, 1)} {
			d, m := newDisk(t, "a", "b"), modelOf("a", "b")
			both(t, d, m, appends(0, "cd"))
			both(t, d, m, arms(1, k))
			answers(t, d, c, api.ErrDead)
			c.onModel(m)
			same(t, d, m)
			if !d.Dead() || d.Size(0) != 1+min(k, 2) || d.Size(1) != 1 {
				t.Errorf("%v, %d: %t, %q", c, k, d.Dead(), d.Files())
			}
		}
	}
}

// An empty text is a change; a refused call, a question, an Arm are none.
func TestP94WhatCounts(t *testing.T) {
	d := newDisk(t, "a", "b")
	answers(t, d, arms(4, 0), api.OK)
	answers(t, d, appends(0, ""), api.OK)
	answers(t, d, appends(2, "x"), api.ErrDiskFile)
	answers(t, d, appends(0, strings.Repeat("l", 1048576)), api.ErrDiskFull)
	answers(t, d, cuts(-1, 0), api.ErrDiskFile)
	answers(t, d, cuts(0, 2), api.ErrDiskSize)
	answers(t, d, arms(-1, 0), api.ErrArg)
	answers(t, d, arms(0, -1), api.ErrArg)
	answers(t, d, crashes(-1), api.ErrArg)
	answers(t, d, syncs(), api.OK)
	answers(t, d, cuts(1, 0), api.OK)
	if d.Dead() {
		t.Error("dead too early")
	}
	// The change in which the power goes may still be refused, which does not count.
	answers(t, d, cuts(0, 2), api.ErrDiskSize)
	answers(t, d, appends(0, strings.Repeat("l", 1048576)), api.ErrDiskFull)
	answers(t, d, appends(0, "x"), api.ErrDead)
	holds(t, d, "a", "", 0)
}

func TestP94ALaterArm(t *testing.T) {
	d := newDisk(t, "", "")
	answers(t, d, arms(1, 0), api.OK)
	answers(t, d, arms(3, 1), api.OK)
	answers(t, d, appends(0, "ab"), api.OK)
	answers(t, d, arms(2, 2), api.OK)
	answers(t, d, appends(0, "c"), api.OK)
	answers(t, d, appends(0, "d"), api.ErrDead)
	holds(t, d, "ab", "", 0)
}

func TestP94ArmOfNought(t *testing.T) {
	for k := range 3 {
		d := newDisk(t, "", "")
		answers(t, d, arms(1, 1), api.OK)
		answers(t, d, arms(0, k), api.OK)
		for range 5 {
			answers(t, d, appends(0, "a"), api.OK)
			answers(t, d, syncs(), api.OK)
		}
		holds(t, d, "aaaaa", "", 0)
	}
}

func TestP94ArmRefused(t *testing.T) {
	for _, n := range []int{-1, 0, 1, math.MinInt} {
		for _, k := range []int{-1, 0, 1, math.MinInt} {
			d := newDisk(t, "", "")
			answers(t, d, arms(2, 1), api.OK)
			if n < 0 || k < 0 {
				// What was armed stays armed.
				answers(t, d, arms(n, k), api.ErrArg)
				answers(t, d, appends(0, "ab"), api.OK)
				answers(t, d, syncs(), api.ErrDead)
				holds(t, d, "a", "", 0)
			}
			d.Revive()
			answers(t, d, crashes(0), api.OK)
			answers(t, d, arms(n, k), api.ErrDead)
			answers(t, d, crashes(k), api.ErrDead)
		}
	}
}

// Of far numbers all unsafe bytes are left, or the power never goes.
func TestP94FarNumbers(t *testing.T) {
	d := newDisk(t, "", "")
	answers(t, d, arms(math.MaxInt, math.MaxInt), api.OK)
	for range 10 {
		answers(t, d, appends(1, "a"), api.OK)
	}
	answers(t, d, arms(1, math.MaxInt), api.OK)
	answers(t, d, syncs(), api.ErrDead)
	holds(t, d, "", strings.Repeat("a", 10), 0)
	d.Revive()
	answers(t, d, appends(0, "b"), api.OK)
	answers(t, d, crashes(math.MaxInt), api.OK)
	holds(t, d, "b", strings.Repeat("a", 10), 0)
}

func TestP94EachArm(t *testing.T) {
	calls := []call{appends(0, "ab"), appends(1, "c"), syncs(), cuts(0, 1), appends(1, ""), appends(0, "de"), appends(1, "fg"), syncs(), cuts(1, 0), appends(0, "h")}
	for n := range len(calls) + 2 {
		for k := range 8 {
			d, m := newDisk(t, "s", "t"), modelOf("s", "t")
			both(t, d, m, arms(n, k))
			for i, c := range calls {
				both(t, d, m, c)
				same(t, d, m)
				if d.Dead() != (n > 0 && i+1 >= n) {
					t.Errorf("Arm %d, %d: dead behind %d: %t", n, k, i, d.Dead())
				}
			}
		}
	}
}

func TestP94Crash(t *testing.T) {
	for k := range 5 {
		d, m := newDisk(t, "a", "b"), modelOf("a", "b")
		for _, c := range []call{appends(1, "x"), appends(0, "yz"), crashes(k)} {
			both(t, d, m, c)
			same(t, d, m)
		}
		if !d.Dead() {
			t.Error("not dead")
		}
	}
}

func TestP94CrashRefused(t *testing.T) {
	d, m := newDisk(t, "a", "b"), modelOf("a", "b")
	both(t, d, m, appends(0, "x"))
	answers(t, d, crashes(-1), api.ErrArg)
	answers(t, d, crashes(math.MinInt), api.ErrArg)
	same(t, d, m)
	both(t, d, m, crashes(1))
	answers(t, d, crashes(-1), api.ErrDead)
	answers(t, d, crashes(0), api.ErrDead)
	same(t, d, m)
}

// Behind a Crash nothing is armed any more, nor behind the change in which the power went.
func TestP94NothingIsArmedBehind(t *testing.T) {
	d := newDisk(t, "", "")
	answers(t, d, arms(1, 0), api.OK)
	answers(t, d, crashes(0), api.OK)
	d.Revive()
	answers(t, d, appends(0, "a"), api.OK)
	answers(t, d, arms(1, 1), api.OK)
	answers(t, d, syncs(), api.ErrDead)
	d.Revive()
	for range 5 {
		answers(t, d, syncs(), api.OK)
	}
	holds(t, d, "a", "", 0)
}

// A dead disk refuses each call so, whatever else is wrong.
func TestP94TheDead(t *testing.T) {
	d, m := newDisk(t, "abc", "d"), modelOf("abc", "d")
	both(t, d, m, appends(0, "e"))
	both(t, d, m, crashes(0))
	long := strings.Repeat("l", 1048577)
	for _, c := range []call{appends(0, "x"), appends(0, ""), appends(2, "x"), appends(0, long), syncs(), cuts(0, 1), cuts(0, -1), cuts(5, 0), arms(0, 0), arms(-1, 0), arms(1, -1), crashes(0), crashes(-1)} {
		answers(t, d, c, api.ErrDead)
		same(t, d, m)
	}
	holds(t, d, "abc", "d", 0)
}

func TestP95Revive(t *testing.T) {
	d, m := newDisk(t, "a", "b"), modelOf("a", "b")
	for _, c := range []call{appends(0, "cd"), crashes(1), revives(), appends(1, "e"), syncs(), appends(0, "f"), arms(1, 0), cuts(1, 0), revives(), cuts(1, 0), revives(), syncs()} {
		both(t, d, m, c)
		same(t, d, m)
	}
	holds(t, d, "ac", "", 0)
}

// Of one that is not dead only what is armed goes away: its unsafe bytes stay so.
func TestP95ReviveOfTheLiving(t *testing.T) {
	d, m := newDisk(t, "a", "b"), modelOf("a", "b")
	for _, c := range []call{appends(0, "cd"), revives(), arms(2, 0), appends(0, "e"), revives(), appends(1, "f")} {
		both(t, d, m, c)
		same(t, d, m)
	}
	if d.Waiting() != 4 || d.Dead() {
		t.Errorf("%d, %t", d.Waiting(), d.Dead())
	}
}

func TestP96Clone(t *testing.T) {
	d, m := newDisk(t, "abc", "d"), modelOf("abc", "d")
	for _, c := range []call{appends(0, "e"), appends(1, "f"), arms(3, 1), appends(0, "g")} {
		both(t, d, m, c)
	}
	c, n := d.Clone(), m.clone()
	same(t, c, n)
	// What is armed goes with it, by as many changes as are still to come.
	both(t, c, n, appends(1, "h"))
	same(t, d, m)
	both(t, c, n, syncs())
	same(t, c, n)
	if !c.Dead() || d.Dead() {
		t.Errorf("%t, %t", c.Dead(), d.Dead())
	}
	same(t, c.Clone(), n)
	c.Revive()
	n.revive()
	same(t, d, m)
	both(t, d, m, appends(0, "i"))
	both(t, d, m, cuts(0, 0))
	same(t, d, m)
	same(t, c, n)
}

// Neither lays its bytes, or marks its unsafe ones, in the other's room.
func TestR7Clones(t *testing.T) {
	d, m := newDisk(t, "", "x"), modelOf("", "x")
	for i := range 20 {
		both(t, d, m, appends(i%3/2, strings.Repeat("o", i%4)))
		c, n := d.Clone(), m.clone()
		e, o := c.Clone(), m.clone()
		for range 3 {
			both(t, c, n, appends(0, "c"))
			both(t, e, o, appends(1, "eee"))
			both(t, d, m, appends(0, "dd"))
			both(t, d, m, appends(1, "d"))
		}
		same(t, c, n)
		same(t, e, o)
		same(t, d, m)
		both(t, c, n, syncs())
		both(t, c, n, cuts(0, 1))
		both(t, c, n, appends(0, "zzzzzzzz"))
		both(t, e, o, crashes(2))
		same(t, d, m)
		same(t, e, o)
		same(t, c, n)
		if i%7 == 6 {
			both(t, d, m, syncs())
		}
	}
}

func TestP97WhatFollows(t *testing.T) {
	r := rand.New(rand.NewSource(97))
	for range 300 {
		d := newDisk(t, "ab", "c")
		for range 12 {
			anyCall(r).on(d)
		}
		if d.Dead() {
			continue
		}
		safe := d.After(0)
		for k := range d.Waiting() + 2 {
			c := d.Clone()
			answers(t, c, crashes(k), api.OK)
			l := d.After(k)
			if !slices.Equal(c.Files(), l) || !strings.HasPrefix(l[0], safe[0]) || !strings.HasPrefix(l[1], safe[1]) {
				t.Errorf("%d: %q; %q; %q", k, c.Files(), l, safe)
			}
		}
		answers(t, d, arms(0, 0), api.OK)
		answers(t, d, syncs(), api.OK)
		files := d.Files()
		for k := range 3 {
			if !slices.Equal(d.After(k), files) {
				t.Errorf("%q; %q", d.After(k), files)
			}
		}
	}
}

// Calls of all kinds, in any order, answer what the chapter's words say, and leave what they say.
func TestP93ManyCalls(t *testing.T) {
	r := rand.New(rand.NewSource(93))
	for range 600 {
		d, m := newDisk(t, "ab", ""), modelOf("ab", "")
		for range 40 {
			if r.Intn(10) == 0 {
				d = d.Clone()
			}
			both(t, d, m, anyCall(r))
			same(t, d, m)
		}
		if t.Failed() {
			return
		}
	}
}

// All rows of a few calls.
func TestP94EachRowOfCalls(t *testing.T) {
	calls := []call{appends(0, "ab"), appends(1, "c"), appends(1, ""), syncs(), cuts(0, 1), cuts(1, 0), arms(1, 1), arms(2, 2), crashes(1), revives()}
	var deeper func(d *disk.Disk, m *model, left int)
	deeper = func(d *disk.Disk, m *model, left int) {
		same(t, d, m)
		if left == 0 || t.Failed() {
			return
		}
		for _, c := range calls {
			d, m := d.Clone(), m.clone()
			both(t, d, m, c)
			deeper(d, m, left-1)
		}
	}
	deeper(newDisk(t, "s", ""), modelOf("s", ""), 4)
}

// Many small pieces are as good as few big ones, also by turns.
func TestP93ManyPieces(t *testing.T) {
	d := newDisk(t, "", "")
	for range 200000 {
		answers(t, d, appends(0, "a"), api.OK)
	}
	for range 100000 {
		answers(t, d, appends(1, "b"), api.OK)
		answers(t, d, appends(0, "c"), api.OK)
	}
	if d.Waiting() != 400000 {
		t.Errorf("%d", d.Waiting())
	}
	leaves(t, d, 199999, strings.Repeat("a", 199999), "")
	leaves(t, d, 200004, strings.Repeat("a", 200000)+"cc", "bb")
	leaves(t, d, 200005, strings.Repeat("a", 200000)+"cc", "bbb")
	answers(t, d, crashes(200005), api.OK)
	holds(t, d, strings.Repeat("a", 200000)+"cc", "bbb", 0)
}

func FuzzR1EndsAtAnything(f *testing.F) {
	f.Add("a", "b", []byte{0, 0, 1, 1, 1, 2, 2, 0, 0, 4, 1, 1, 0, 1, 2, 5, 0, 0})
	f.Add("", "", []byte{0, 255, 7, 3, 2, 1, 2, 1, 1, 4, 0, 128, 6, 6, 6})
	f.Fuzz(func(t *testing.T, a, b string, bytes []byte) {
		if len(a)+len(b)+len(bytes) > 300 {
			return
		}
		d, m := newDisk(t, a, b), modelOf(a, b)
		for ; len(bytes) > 2; bytes = bytes[3:] {
			f, n := int(int8(bytes[1])), int(int8(bytes[2]))
			switch bytes[0] % 8 {
			case 0, 1:
				both(t, d, m, appends(f, a[:min(len(a), max(0, n))]))
			case 2, 3:
				both(t, d, m, appends(f&1, b+a))
			case 4:
				both(t, d, m, syncs())
			case 5:
				both(t, d, m, cuts(f, n))
			case 6:
				both(t, d, m, arms(f, n))
			case 7:
				if f < 0 {
					both(t, d, m, revives())
				} else {
					both(t, d, m, crashes(n))
				}
			}
			same(t, d, m)
		}
	})
}

// R4: what New and Append take may change behind them.
func TestR4WhatIsHandedInIsNotKept(t *testing.T) {
	files := make([]string, 2, 4)
	first, more := []byte("abc"), []byte("def")
	files[0], files[1] = unsafe.String(&first[0], len(first)), "x"
	d, e := disk.New(files)
	if e != api.OK {
		t.Fatal(e)
	}
	answers(t, d, appends(1, unsafe.String(&more[0], len(more))), api.OK)
	if !slices.Equal(files[:4], []string{"abc", "x", "", ""}) {
		t.Errorf("%q", files[:4])
	}
	files[1] = "other"
	first[0], more[0] = 'X', 'Y'
	holds(t, d, "abc", "xdef", 3)
}

// R4: what is answered is the caller's.
func TestR4ListsAreTheCallers(t *testing.T) {
	d, m := newDisk(t, "abc", "d"), modelOf("abc", "d")
	both(t, d, m, appends(0, "ef"))
	for _, tell := range []func() []string{d.Files, func() []string { return d.After(1) }, func() []string { return d.After(0) }} {
		l := tell()
		want := slices.Clone(l)
		l[0], l[1] = "x", "y"
		l = append(l[:1], "z")
		if !slices.Equal(tell(), want) || l[0] != "x" {
			t.Errorf("%q; want %q", tell(), want)
		}
		same(t, d, m)
	}
	files, s := d.Files(), d.After(1)
	read, _ := d.Read(0)
	both(t, d, m, syncs())
	both(t, d, m, cuts(0, 1))
	both(t, d, m, appends(0, "ZZZZZZ"))
	if files[0] != "abcef" || s[0] != "abce" || read != "abcef" {
		t.Errorf("%q, %q, %q", files, s, read)
	}
}

// R5: what one disk is asked hangs on no other one.
func TestR5NothingIsKept(t *testing.T) {
	var g sync.WaitGroup
	for i := range 8 {
		g.Go(func() {
			r := rand.New(rand.NewSource(int64(i % 2)))
			d, m := newDisk(t, "ab", ""), modelOf("ab", "")
			for range 400 {
				both(t, d, m, anyCall(r))
				same(t, d, m)
			}
		})
	}
	g.Wait()
}
