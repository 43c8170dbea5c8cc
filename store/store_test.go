package store_test

import (
	"bytes"
	"fmt"
	"maps"
	"math"
	"math/rand"
	"slices"
	"strings"
	"sync"
	"testing"
	"unsafe"

	"seneschal/api"
	"seneschal/disk"
	"seneschal/store"
	"seneschal/wal"
)

func TestP111Examples(t *testing.T) {
	s, d := newStore(t)
	tx := s.Begin()
	is(t, tx.Put("b", "2"), api.OK)
	is(t, tx.Put("a", ""), api.OK)
	gets(t, tx, "b", "2")
	gone(t, s, "b")
	is(t, tx.Commit(), api.OK)
	scans(t, s, "", 9, "a", "", "b", "2")
	holds(t, d, theFile(1, "", bytesOf("00 02 01 01 61 00 00 01 01 62 00 01 32")), "")

	tx = s.Begin()
	is(t, tx.Put("", "x"), api.ErrStoreKey)
	is(t, tx.Put("k", strings.Repeat("v", 4097)), api.ErrStoreLong)
	is(t, tx.Delete(strings.Repeat("k", 65)), api.ErrStoreKey)

	s, _ = newStore(t)
	one, two := s.Begin(), s.Begin()
	is(t, one.Put("a", "x"), api.OK)
	is(t, two.Put("a", "x"), api.OK)
	is(t, one.Commit(), api.OK)
	is(t, two.Commit(), api.ErrStoreDone)
	is(t, two.Commit(), api.ErrStoreDone)

	s, d = newStore(t)
	tx = s.Begin()
	is(t, tx.Delete("a"), api.OK)
	is(t, tx.Commit(), api.OK)
	holds(t, d, theFile(1, ""), "")
}

func TestP111New(t *testing.T) {
	s, d := newStore(t)
	tells(t, s, nil, false)
	holds(t, d, theFile(1, ""), "")
	if d.Waiting() != 0 {
		t.Errorf("%d unsafe bytes", d.Waiting())
	}
	tells(t, opened(t, d), nil, false)
}

func TestP111NewRefused(t *testing.T) {
	for _, files := range [][2]string{{"x", ""}, {"", "x"}, {theFile(1, ""), ""}} {
		d := newDisk(t, files[0], files[1])
		if s, e := store.New(d); s != nil || e != api.ErrWalForm {
			t.Errorf("%q: %v, %d", files, s, e)
		}
		holds(t, d, files[0], files[1])
		d.Crash(0)
		if s, e := store.New(d); s != nil || e != api.ErrDead {
			t.Errorf("%q, dead: %v, %d", files, s, e)
		}
	}
	for n := 1; n <= 2; n++ {
		d := newDisk(t, "", "")
		d.Arm(n, 5)
		if s, e := store.New(d); s != nil || e != api.ErrDead {
			t.Errorf("%d: %v, %d", n, s, e)
		}
		holds(t, d, theFile(1, "")[:5], "")
	}
}

func TestP111Open(t *testing.T) {
	long, key := strings.Repeat("v", 4096), strings.Repeat("k", 64)
	for _, c := range []struct {
		image   string
		records []string
		want    map[string]string
	}{
		{"", nil, nil},
		{theImage(thePut("a", "")), nil, map[string]string{"a": ""}},
		{theImage(thePut("a", "1"), thePut("b", "2")), nil, map[string]string{"a": "1", "b": "2"}},
		{theImage(thePut("\x00", long), thePut(key, "x"), thePut("\xff", "")), nil, map[string]string{"\x00": long, key: "x", "\xff": ""}},
		{"", []string{theRecord(thePut("a", "1"))}, map[string]string{"a": "1"}},
		{"", []string{theRecord(thePut("a", "1")), theRecord(thePut("a", "2"))}, map[string]string{"a": "2"}},
		{"", []string{theRecord(thePut("a", "1")), theRecord(thePut("a", ""))}, map[string]string{"a": ""}},
		{"", []string{theRecord(thePut("a", "1")), theRecord(theDelete("a"))}, nil},
		{"", []string{theRecord(thePut("a", "1")), theRecord(theDelete("a")), theRecord(thePut("a", "1"))}, map[string]string{"a": "1"}},
		{theImage(thePut("a", "1"), thePut("c", "")), []string{theRecord(theDelete("a"), thePut("b", "x"), thePut("c", "y")), theRecord(thePut("a", long), theDelete("b"))}, map[string]string{"a": long, "c": "y"}},
	} {
		for f := range 2 {
			files := [2]string{}
			files[f] = theFile(7, c.image, c.records...)
			d := newDisk(t, files[0], files[1])
			// No change is made.
			d.Arm(1, 0)
			tells(t, opened(t, d), c.want, false)
			tells(t, opened(t, d), c.want, false)
			holds(t, d, files[0], files[1])
			d.Arm(0, 0)
			// It goes on.
			s := opened(t, d)
			is(t, commits(s, "new", "pair"), api.OK)
			files[f] = theFile(7, c.image, append(slices.Clone(c.records), theRecord(thePut("new", "pair")))...)
			holds(t, d, files[0], files[1])
			want := map[string]string{"new": "pair"}
			maps.Copy(want, c.want)
			tells(t, s, want, false)
			tells(t, opened(t, d), want, false)
		}
	}
}

// badChanges: changes' bytes that may stand neither in an image nor in a record, also where the keys a and b are there, or none is.
func badChanges() [][]string {
	return [][]string{
		nil,
		{""},
		{thePut("x", "") + "\x00"},
		{thePut("x", "value")[:8]},
		{thePut("x", "value")[:4]},
		{thePut("x", "value")[:3]},
		{thePut("x", "")[:2]},
		{thePut("x", "")[:1]},
		{thePut("x", ""), thePut("y", "v")[:5]},
		{"\x02" + thePut("x", "")[1:]},
		{"\xff" + thePut("x", "")[1:]},
		{"\x02\x01x"},
		{thePut("", "v")},
		{thePut("", "")},
		{thePut(strings.Repeat("k", 65), "")},
		{thePut(strings.Repeat("k", 255), "")},
		{thePut("x", strings.Repeat("v", 4097))},
		{thePut("x", strings.Repeat("v", 65000))},
		{thePut("x", "1"), thePut("x", "1")},
		{thePut("x", "1"), thePut("x", "2")},
		{thePut("y", ""), thePut("x", "")},
		{thePut("x", ""), thePut("z", ""), thePut("y", "")},
		{thePut("xx", ""), thePut("x", "")},
		{thePut("x", ""), theDelete("x")},
		{theDelete("x")},
		{theDelete("")},
		{theDelete("x"), thePut("x", "")},
		{theDelete(strings.Repeat("k", 65))},
	}
}

func TestP111OpenOfABadImage(t *testing.T) {
	good := theImage(thePut("a", "1"), thePut("b", "2"))
	bad := []string{
		"\x00", "\x00\x00\x00", theImage(), theImage()[:3], good + "\x00", good + thePut("c", ""), "\x00" + good,
		"\x00\x00\x00\x01" + good[4:], "\x00\x00\x00\x03" + good[4:], "\xff\xff\xff\xff" + good[4:], "\x01\x00\x00\x02" + good[4:],
		theRecord(thePut("a", "1"), thePut("b", "2")), theRecord(thePut("a", "1")), theRecord(),
		theImage(theDelete("a")), theImage(thePut("a", ""), theDelete("b")), theImage(theDelete("a"), thePut("b", "")),
	}
	for n := 1; n < len(good); n++ {
		bad = append(bad, good[:n])
	}
	for _, changes := range badChanges() {
		bad = append(bad, theImage(changes...))
	}
	for _, image := range bad {
		refuses(t, newDisk(t, theFile(1, image), ""), api.ErrStoreForm)
		refuses(t, newDisk(t, "", theFile(9, image, theRecord(thePut("c", "")))), api.ErrStoreForm)
	}
}

func TestP111OpenOfABadRecord(t *testing.T) {
	good := theRecord(thePut("c", "3"), thePut("d", "4"))
	bad := []string{
		"", "\x00", theRecord(), good + "\x00", good + thePut("e", ""), "\x00" + good, "\x00\x00" + good,
		"\x00\x01" + good[2:], "\x00\x03" + good[2:], "\xff\xff" + good[2:], "\x01\x02" + good[2:],
		theImage(thePut("c", "3")),
		theRecord(thePut("a", "1")), theRecord(thePut("a", "2"), thePut("b", "2")),
		theRecord(theDelete("c")), theRecord(theDelete("a"), theDelete("c")),
	}
	for n := 1; n < len(good); n++ {
		bad = append(bad, good[:n])
	}
	for _, changes := range badChanges() {
		bad = append(bad, theRecord(changes...))
	}
	image := theImage(thePut("a", "1"), thePut("b", "2"))
	for _, record := range bad {
		refuses(t, newDisk(t, theFile(1, image, record), ""), api.ErrStoreForm)
		refuses(t, newDisk(t, "", theFile(2, image, theRecord(thePut("a", "9")), theRecord(thePut("a", "1")), record, theRecord(thePut("e", "")))), api.ErrStoreForm)
		refuses(t, newDisk(t, theFile(1, "", theRecord(thePut("a", "1")), theRecord(thePut("b", "2")), record), ""), api.ErrStoreForm)
	}
	tells(t, opened(t, newDisk(t, theFile(1, image, good), "")), map[string]string{"a": "1", "b": "2", "c": "3", "d": "4"}, false)
}

// puts: those of so many keys, from one on, with a value.
func puts(from, n int, value string) []string {
	var l []string
	for i := range n {
		l = append(l, thePut(fmt.Sprintf("%05d", from+i), value))
	}
	return l
}

func TestP111OpenOfManyChanges(t *testing.T) {
	for n, want := range map[int]api.Errno{1: api.OK, 255: api.OK, 256: api.OK, 512: api.OK, 513: api.ErrStoreForm, 768: api.ErrStoreForm, 2048: api.ErrStoreForm} {
		d := newDisk(t, theFile(1, "", theRecord(puts(0, n, "")...)), "")
		if want != api.OK {
			refuses(t, d, want)
		} else if s := opened(t, d); s.Keys() != n || s.Bytes() != 5*n {
			t.Errorf("%d: %d, %d", n, s.Keys(), s.Bytes())
		}
	}
	for n, want := range map[int]api.Errno{512: api.OK, 513: api.OK, 2047: api.OK, 2048: api.OK, 2049: api.ErrStoreForm, 4000: api.ErrStoreForm} {
		d := newDisk(t, "", theFile(1, theImage(puts(0, n, "")...)))
		if want != api.OK {
			refuses(t, d, want)
		} else if s := opened(t, d); s.Keys() != n || s.Bytes() != 5*n {
			t.Errorf("%d: %d, %d", n, s.Keys(), s.Bytes())
		}
	}
}

// The quota holds behind each record, also where a later one would mend it, but not within one.
func TestP111OpenAboveTheQuota(t *testing.T) {
	full := theImage(puts(0, 2048, "")...)
	for _, c := range []struct {
		image string
		want  api.Errno
		rows  []string
	}{
		{full, api.OK, []string{theRecord(thePut("00000", "v")), theRecord(thePut("00000", ""))}},
		{full, api.ErrStoreForm, []string{theRecord(thePut("x", ""))}},
		{full, api.ErrStoreForm, []string{theRecord(thePut("x", "")), theRecord(theDelete("00000"))}},
		{full, api.OK, []string{theRecord(theDelete("00000")), theRecord(thePut("x", ""))}},
		{full, api.OK, []string{theRecord(thePut("!", ""), theDelete("00000"))}},
		{full, api.ErrStoreForm, []string{theRecord(thePut("!", ""), thePut("\"", ""), theDelete("00000"))}},
	} {
		d := newDisk(t, theFile(1, c.image, c.rows...), "")
		if c.want != api.OK {
			refuses(t, d, c.want)
		} else if s := opened(t, d); s.Keys() != 2048 {
			t.Errorf("%d", s.Keys())
		}
	}
	// 64 pairs of 4096 bytes are 262144.
	most := theImage(puts(0, 64, strings.Repeat("v", 4091))...)
	more := theImage(append(puts(0, 63, strings.Repeat("v", 4091)), thePut("00063", strings.Repeat("v", 4092)))...)
	s := opened(t, newDisk(t, theFile(1, most), ""))
	if s.Bytes() != 262144 {
		t.Errorf("%d", s.Bytes())
	}
	refuses(t, newDisk(t, theFile(1, more), ""), api.ErrStoreForm)
	refuses(t, newDisk(t, theFile(1, most, theRecord(thePut("x", ""))), ""), api.ErrStoreForm)
	refuses(t, newDisk(t, theFile(1, most, theRecord(thePut("00000", strings.Repeat("v", 4092)))), ""), api.ErrStoreForm)
	refuses(t, newDisk(t, theFile(1, most, theRecord(thePut("00000", strings.Repeat("v", 4092))), theRecord(theDelete("00000"))), ""), api.ErrStoreForm)
	s = opened(t, newDisk(t, theFile(1, most, theRecord(thePut("00000", strings.Repeat("v", 4092)), thePut("00001", strings.Repeat("v", 4090)))), ""))
	if s.Bytes() != 262144 {
		t.Errorf("%d", s.Bytes())
	}
}

func TestP111OpenRefusedByTheLog(t *testing.T) {
	bad := theFile(1, "bad")
	for _, files := range [][2]string{{"", ""}, {"x", ""}, {"", theFile(1, "")[:19]}, {theFile(0, ""), "x"}} {
		refuses(t, newDisk(t, files[0], files[1]), api.ErrWalForm)
	}
	for _, files := range [][2]string{{"", ""}, {theFile(1, ""), ""}, {bad, ""}} {
		d := newDisk(t, files[0], files[1])
		d.Crash(0)
		refuses(t, d, api.ErrDead)
	}
	// The power that goes in what the log cuts off comes ahead of what the store finds.
	for _, file := range []string{theFile(2, ""), theFile(2, "bad")} {
		for n := 1; n <= 2; n++ {
			d := newDisk(t, theFile(1, ""), file+"torn")
			d.Arm(n, 0)
			if s, e := store.Open(d); s != nil || e != api.ErrDead || !d.Dead() {
				t.Errorf("%v, %d", s, e)
			}
			holds(t, d, theFile(1, ""), (file + "torn")[:len(file)+4*(2-n)])
		}
	}
}

// What is torn is cut off; but an error leaves all as it was (R2).
func TestP111OpenCutsOff(t *testing.T) {
	record := theRecord(thePut("a", "1"))
	d := newDisk(t, theFile(3, "", record)+"torn", theFile(2, "", record, record))
	tells(t, opened(t, d), map[string]string{"a": "1"}, false)
	holds(t, d, theFile(3, "", record), "")
	d = newDisk(t, theFile(3, "", record, record)+"torn", theFile(2, "", record))
	d.Arm(3, 0)
	refuses(t, d, api.ErrStoreForm)
	// Nor does it count as a change.
	is(t, d.Sync(), api.OK)
	is(t, d.Sync(), api.OK)
	is(t, d.Sync(), api.ErrDead)
	d.Revive()
	_, _, records, e := wal.Open(d)
	if len(records) != 2 || e != api.OK {
		t.Errorf("%q, %d", records, e)
	}
}

func TestP112Get(t *testing.T) {
	s, _ := newStore(t)
	key, long := strings.Repeat("k", 64), strings.Repeat("v", 4096)
	is(t, commits(s, "a", "1", "", "x"), api.ErrStoreKey)
	gone(t, s, "a")
	is(t, commits(s, "a", "1", "empty", "", key, long, "\x00\xff", "\x00"), api.OK)
	gets(t, s, "a", "1")
	gets(t, s, "empty", "")
	gets(t, s, key, long)
	gets(t, s, "\x00\xff", "\x00")
	for _, k := range []string{"", "A", "aa", "\x00", "b", key[1:], key + "k", strings.Repeat("k", 100000)} {
		gone(t, s, k)
	}
	if s.Keys() != 4 || s.Bytes() != 2+5+64+4096+3 {
		t.Errorf("%d, %d", s.Keys(), s.Bytes())
	}
	is(t, commits(s, "a", "longer"), api.OK)
	is(t, deletes(s, key), api.OK)
	if s.Keys() != 3 || s.Bytes() != 7+5+3 {
		t.Errorf("%d, %d", s.Keys(), s.Bytes())
	}
	gone(t, s, key)
	gets(t, s, "a", "longer")
}

func TestP112Scan(t *testing.T) {
	s, _ := newStore(t)
	scans(t, s, "", 9)
	is(t, commits(s, "b", "2", "ab", "", "\xff", "9", "a", "1", "\x00", "0", "é", "8"), api.OK)
	rising := []string{"\x00", "0", "a", "1", "ab", "", "b", "2", "é", "8", "\xff", "9"}
	tx := s.Begin()
	for _, x := range []viewer{s, tx} {
		for from, n := range map[string]int{"": 0, "\x00": 0, "\x00\x00": 1, "Z": 1, "a": 1, "a\x00": 2, "aa": 2, "ab": 2, "ab\x00": 3, "b": 3, "c": 4, "é": 4, "\xff": 5, "\xff\x00": 6, strings.Repeat("\xff", 1000): 6, strings.Repeat("a", 1000): 2} {
			for most := range 9 {
				scans(t, x, from, most, rising[2*n:2*max(n, min(6, n+most))]...)
			}
			scans(t, x, from, math.MaxInt, rising[2*n:]...)
			for _, most := range []int{-1, -2, math.MinInt} {
				scans(t, x, from, most)
			}
		}
	}
}

func TestP113TheTransactionsView(t *testing.T) {
	s, _ := newStore(t)
	is(t, commits(s, "a", "1", "b", "2", "c", "3"), api.OK)
	tx := s.Begin()
	has(t, tx, map[string]string{"a": "1", "b": "2", "c": "3"})
	is(t, tx.Put("b", "new"), api.OK)
	is(t, tx.Put("bb", ""), api.OK)
	is(t, tx.Delete("a"), api.OK)
	is(t, tx.Delete("none"), api.OK)
	has(t, tx, map[string]string{"b": "new", "bb": "", "c": "3"})
	gets(t, tx, "b", "new")
	gets(t, tx, "bb", "")
	gets(t, tx, "c", "3")
	gone(t, tx, "a")
	gone(t, tx, "none")
	scans(t, tx, "b", 2, "b", "new", "bb", "")
	scans(t, tx, "a", 1, "b", "new")
	// Deleted and put again, put and deleted again.
	is(t, tx.Put("a", "again"), api.OK)
	is(t, tx.Delete("bb"), api.OK)
	is(t, tx.Delete("bb"), api.OK)
	has(t, tx, map[string]string{"a": "again", "b": "new", "c": "3"})
	// Nobody else sees any of it.
	tells(t, s, map[string]string{"a": "1", "b": "2", "c": "3"}, false)
	has(t, s.Begin(), map[string]string{"a": "1", "b": "2", "c": "3"})
	// Nor does it see what others commit, whatever it has put itself.
	old := s.Begin()
	is(t, commits(s, "a", "x", "d", "4"), api.OK)
	is(t, deletes(s, "c"), api.OK)
	has(t, tx, map[string]string{"a": "again", "b": "new", "c": "3"})
	has(t, old, map[string]string{"a": "1", "b": "2", "c": "3"})
	is(t, old.Put("e", "5"), api.OK)
	has(t, old, map[string]string{"a": "1", "b": "2", "c": "3", "e": "5"})
	has(t, s.Begin(), map[string]string{"a": "x", "b": "2", "d": "4"})
	tells(t, s, map[string]string{"a": "x", "b": "2", "d": "4"}, false)
}

func TestP113Refused(t *testing.T) {
	s, _ := newStore(t)
	tx := s.Begin()
	for _, key := range []string{"", strings.Repeat("k", 65), strings.Repeat("k", 66), strings.Repeat("k", 256), strings.Repeat("k", 256+5)} {
		is(t, tx.Put(key, ""), api.ErrStoreKey)
		is(t, tx.Put(key, strings.Repeat("v", 4097)), api.ErrStoreKey)
		is(t, tx.Delete(key), api.ErrStoreKey)
	}
	is(t, tx.Put("a", "1"), api.OK)
	for _, n := range []int{4097, 4098, 65536, 65537, 100000} {
		is(t, tx.Put("a", strings.Repeat("v", n)), api.ErrStoreLong)
		is(t, tx.Put("b", strings.Repeat("v", n)), api.ErrStoreLong)
	}
	has(t, tx, map[string]string{"a": "1"})
	is(t, tx.Put(strings.Repeat("k", 64), strings.Repeat("v", 4096)), api.OK)
	is(t, tx.Put("k", ""), api.OK)
	is(t, tx.Delete(strings.Repeat("k", 64)), api.OK)
	is(t, tx.Commit(), api.OK)
	tells(t, s, map[string]string{"a": "1", "k": ""}, false)
}

func TestP113OfOneThatIsOver(t *testing.T) {
	s, d := newStore(t)
	is(t, commits(s, "a", "1"), api.OK)
	stale := s.Begin()
	stale.Put("a", "stale")
	is(t, commits(s, "b", "2"), api.OK)
	files := d.Files()
	for name, end := range map[string]func(tx *store.Tx){
		"Abort":                       (*store.Tx).Abort,
		"Commit of nothing":           func(tx *store.Tx) { is(t, tx.Commit(), api.OK) },
		"Commit of what is too much":  func(tx *store.Tx) { tooMuch(tx); is(t, tx.Commit(), api.ErrStoreLong) },
		"Commit of what is too late":  func(tx *store.Tx) { *tx = *stale; is(t, tx.Commit(), api.ErrStoreDone) },
		"Abort of what has been over": func(tx *store.Tx) { tx.Abort(); tx.Abort() },
	} {
		tx := s.Begin()
		end(tx)
		for range 2 {
			has(t, tx, nil)
			gone(t, tx, "a")
			scans(t, tx, "", 1)
			is(t, tx.Put("c", "3"), api.ErrStoreDone)
			is(t, tx.Put("", strings.Repeat("v", 4097)), api.ErrStoreDone)
			is(t, tx.Put("c", strings.Repeat("v", 4097)), api.ErrStoreDone)
			is(t, tx.Delete("a"), api.ErrStoreDone)
			is(t, tx.Delete(""), api.ErrStoreDone)
			is(t, tx.Commit(), api.ErrStoreDone)
			tx.Abort()
		}
		tells(t, s, map[string]string{"a": "1", "b": "2"}, false)
		if holds(t, d, files[0], files[1]); t.Failed() {
			t.Fatal(name)
		}
	}
}

// tooMuch: 513 puts.
func tooMuch(tx *store.Tx) {
	for i := range 513 {
		tx.Put(fmt.Sprint(i), "")
	}
}

// The bytes of what is committed, which stand on the disk, unsafe.
func TestP114Record(t *testing.T) {
	w := newTwin(t)
	is(t, w.commits("b", "2", "a", "1", "\xff", "", "c", strings.Repeat("v", 256)), api.OK)
	records := []string{theRecord(thePut("a", "1"), thePut("b", "2"), thePut("c", strings.Repeat("v", 256)), thePut("\xff", ""))}
	holds(t, w.d, theFile(1, "", records...), "")
	if files := w.d.After(0); files[0] != theFile(1, "") {
		t.Errorf("%x", files[0])
	}
	i := w.begin()
	w.delete(i, "b")
	w.put(i, "a", "new")
	w.put(i, "\xff", "")  // is so already
	w.put(i, "c", "else") // and back again
	w.put(i, "c", strings.Repeat("v", 256))
	w.put(i, "d", "put, and gone again")
	w.delete(i, "d")
	w.delete(i, "none")
	w.put(i, strings.Repeat("k", 64), strings.Repeat("v", 4096))
	is(t, w.commit(i), api.OK)
	records = append(records, theRecord(thePut("a", "new"), theDelete("b"), thePut(strings.Repeat("k", 64), strings.Repeat("v", 4096))))
	holds(t, w.d, theFile(1, "", records...), "")
	is(t, w.deletes("a", "\xff", "c", strings.Repeat("k", 64)), api.OK)
	records = append(records, theRecord(theDelete("a"), theDelete("c"), theDelete(strings.Repeat("k", 64)), theDelete("\xff")))
	holds(t, w.d, theFile(1, "", records...), "")
	tells(t, w.s, nil, false)
	tells(t, opened(t, w.d), nil, false)
}

// What has no changes makes no record, and stands in nobody's way.
func TestP114NoChanges(t *testing.T) {
	w := newTwin(t)
	is(t, w.commits("a", "1", "b", ""), api.OK)
	files := w.d.Files()
	other := w.begin()
	w.put(other, "c", "3")
	is(t, w.commits(), api.OK)
	is(t, w.commits("a", "1"), api.OK)
	is(t, w.commits("b", "", "a", "1"), api.OK)
	is(t, w.commits("a", "2", "a", "1"), api.OK)
	is(t, w.deletes("c", "none"), api.OK)
	i := w.begin()
	w.delete(i, "a")
	w.delete(i, "b")
	w.put(i, "b", "")
	w.put(i, "a", "1")
	is(t, w.commit(i), api.OK)
	holds(t, w.d, files[0], files[1])
	is(t, w.commit(other), api.OK)
	// One without changes is too late as well.
	late := w.begin()
	is(t, w.commits("d", "4"), api.OK)
	is(t, w.commit(late), api.ErrStoreDone)
}

func TestP114AnotherOneAhead(t *testing.T) {
	w := newTwin(t)
	// Also where they have nothing to do with one another; but one that was not committed is in nobody's way.
	first, second, third, fourth := w.begin(), w.begin(), w.begin(), w.begin()
	w.put(first, "a", "1")
	w.put(second, "b", "2")
	w.put(third, "c", "3")
	w.put(fourth, "d", "4")
	w.abort(first)
	is(t, w.commit(second), api.OK)
	fifth := w.begin()
	is(t, w.commit(third), api.ErrStoreDone)
	w.put(fifth, "e", "5")
	is(t, w.commit(fifth), api.OK)
	is(t, w.commit(fourth), api.ErrStoreDone)
	tells(t, w.s, map[string]string{"b": "2", "e": "5"}, false)
	// What was refused is in nobody's way, nor are Sync and Checkpoint.
	long, fine := w.begin(), w.begin()
	for i := range 513 {
		w.put(long, fmt.Sprint(i), "")
	}
	w.put(fine, "f", "6")
	is(t, w.commit(long), api.ErrStoreLong)
	is(t, w.sync(), api.OK)
	is(t, w.checkpoint(), api.OK)
	is(t, w.commit(fine), api.OK)
	// Back to what was there is another state still.
	late := w.begin()
	w.put(late, "g", "7")
	is(t, w.commits("h", "8"), api.OK)
	is(t, w.deletes("h"), api.OK)
	is(t, w.commit(late), api.ErrStoreDone)
}

func TestP114TooManyChanges(t *testing.T) {
	for n, want := range map[int]api.Errno{511: api.OK, 512: api.OK, 513: api.ErrStoreLong, 600: api.ErrStoreLong, 3000: api.ErrStoreLong} {
		w := newTwin(t)
		i := w.begin()
		for k := range n {
			w.put(i, fmt.Sprint(k), "")
		}
		is(t, w.commit(i), want)
	}
	// Deletes and puts together; what is none doesn't count.
	for more, want := range map[int]api.Errno{0: api.OK, 1: api.ErrStoreLong} {
		w := newTwin(t)
		for from := range 3 {
			i := w.begin()
			for k := range 300 {
				w.put(i, fmt.Sprint(from, k), "v")
			}
			is(t, w.commit(i), api.OK)
		}
		i := w.begin()
		for k := range 300 {
			w.delete(i, fmt.Sprint(0, k))
			w.put(i, fmt.Sprint(1, k), "v")
			w.delete(i, fmt.Sprint("none", k))
		}
		for k := range 212 + more {
			w.put(i, fmt.Sprint(2, k), "w")
		}
		is(t, w.commit(i), want)
	}
}

func TestP114TooManyBytes(t *testing.T) {
	// 2 bytes, and 15 times 4 and 4096 and 1; the last one has the rest.
	rest := 65536 - 2 - 15*(4+4096+1) - 4 - 1
	for more, want := range map[int]api.Errno{-1: api.OK, 0: api.OK, 1: api.ErrStoreLong, 2: api.ErrStoreLong} {
		w := newTwin(t)
		i := w.begin()
		for k := range 15 {
			w.put(i, string(rune('a'+k)), strings.Repeat("v", 4096))
		}
		w.put(i, "z", strings.Repeat("v", rest+more))
		is(t, w.commit(i), want)
		if want == api.OK && w.d.Size(0) != 20+8+65536+more {
			t.Errorf("%d", w.d.Size(0))
		}
		w.drop()
		is(t, w.commits("z", strings.Repeat("v", rest+more)), api.OK)
	}
	w := newTwin(t)
	i := w.begin()
	for k := range 512 {
		w.put(i, fmt.Sprintf("%064d", k), strings.Repeat("v", 4096))
	}
	is(t, w.commit(i), api.ErrStoreLong)
}

// fill: so many keys, from one on, with a value, in commits of 15 keys at most each.
func (w *twin) fill(from, n int, value string) {
	w.t.Helper()
	for k := 0; k < n; k += 15 {
		i := w.begin()
		for j := k; j < min(n, k+15); j++ {
			w.put(i, fmt.Sprintf("%05d", from+j), value)
		}
		size := w.d.Size(0)
		is(w.t, w.commit(i), api.OK)
		// Else those who fill the file would never end.
		if w.d.Size(0) <= size {
			w.t.Fatal("nothing was laid")
		}
		w.drop()
	}
}

func TestP114TooManyKeys(t *testing.T) {
	w := newTwin(t)
	w.fill(0, 2047, "")
	is(t, w.commits("x", "", "y", ""), api.ErrStoreFull)
	is(t, w.commits("x", ""), api.OK)
	is(t, w.commits("y", ""), api.ErrStoreFull)
	is(t, w.commits("x", "value"), api.OK)
	// In the place of another one.
	w.drop()
	i := w.begin()
	w.put(i, "!", "")
	w.delete(i, "x")
	is(t, w.commit(i), api.OK)
	// Of too many changes, and too many keys: the former.
	i = w.begin()
	for k := range 513 {
		w.put(i, fmt.Sprint("new", k), "")
	}
	is(t, w.commit(i), api.ErrStoreLong)
	w.drop()
	is(t, w.deletes("00000"), api.OK)
	is(t, w.commits("y", ""), api.OK)
	if w.s.Keys() != 2048 {
		t.Errorf("%d", w.s.Keys())
	}
	w.drop()
	is(t, w.checkpoint(), api.OK)
	tells(t, opened(t, w.d), w.m.at, false)
}

func TestP114TooManyBytesInTheStore(t *testing.T) {
	w := newTwin(t)
	// 63 pairs of 4096 bytes.
	w.fill(0, 63, strings.Repeat("v", 4091))
	is(t, w.commits("x", strings.Repeat("v", 4096)), api.ErrStoreFull)
	is(t, w.commits("x", strings.Repeat("v", 4095)), api.OK)
	if w.s.Bytes() != 262144 {
		t.Errorf("%d", w.s.Bytes())
	}
	w.drop()
	is(t, w.commits("y", ""), api.ErrStoreFull)
	is(t, w.commits("00000", strings.Repeat("v", 4092)), api.ErrStoreFull)
	is(t, w.commits("00000", strings.Repeat("w", 4091)), api.OK)
	is(t, w.commits("00000", strings.Repeat("v", 4092), "00001", strings.Repeat("v", 4090)), api.OK)
	is(t, w.deletes("x"), api.OK)
	is(t, w.commits("xy", strings.Repeat("v", 4095)), api.ErrStoreFull)
	is(t, w.commits("xy", strings.Repeat("v", 4094)), api.OK)
	w.drop()
	tells(t, opened(t, w.d), w.m.at, false)
}

// A record that just fits makes no checkpoint; one byte more does, ahead of it.
func TestP114NoRoom(t *testing.T) {
	for more := -1; more <= 2; more++ {
		w := newTwin(t)
		w.fill(0, 15, strings.Repeat("v", 4096))
		for n := 1; 1048576-w.d.Size(0) >= 8+65536; n++ {
			w.fill(0, 15, strings.Repeat(string(rune('a'+n)), 4096))
		}
		for n := 0; 1048576-w.d.Size(0) > 4096; n++ {
			w.fill(0, 1, strings.Repeat(string(rune('a'+n)), 1000+n))
		}
		before, want := w.d.Size(0), maps.Clone(w.m.at)
		// 8 of the frame, 2 of the count, 4 and 1 of the put.
		left := 1048576 - before - 8 - 2 - 4 - 1
		i := w.begin()
		w.put(i, "x", strings.Repeat("x", left+more))
		is(t, w.commit(i), api.OK)
		record := theRecord(thePut("x", strings.Repeat("x", left+more)))
		if more <= 0 {
			if w.d.Size(0) != 1048576+more || w.d.Size(1) != 0 {
				t.Errorf("%d: %d, %d", more, w.d.Size(0), w.d.Size(1))
			}
			continue
		}
		var l []string
		for _, p := range sorted(want) {
			l = append(l, thePut(p.Key, p.Value))
		}
		holds(t, w.d, "", theFile(2, theImage(l...), record))
		// The checkpoint is safe, the record is not.
		if files := w.d.After(0); files[1] != theFile(2, theImage(l...)) {
			t.Errorf("%d: %.80x", more, files[1])
		}
		w.drop()
		tells(t, opened(t, w.d), w.m.at, false)
	}
}

// The power goes in each change of a commit that has no room: the checkpoint's three, and the record's.
func TestP114NoRoomBrokenOff(t *testing.T) {
	full := newTwin(t)
	for n := 0; 1048576-full.d.Size(0) >= 8+65536; n++ {
		full.fill(0, 15, strings.Repeat(string(rune('a'+n)), 4096))
	}
	for n := 0; 1048576-full.d.Size(0) > 1000; n++ {
		full.fill(0, 1, strings.Repeat(string(rune('a'+n)), 900))
	}
	is(t, full.sync(), api.OK)
	value := strings.Repeat("x", 1000)
	made := maps.Clone(full.m.at)
	made["x"] = value
	for n := 1; n <= 5; n++ {
		for _, k := range []int{0, 1, 10, 1017, 1018, 5000, 100000} {
			w := full.clone()
			w.onDisks(func(d *disk.Disk) { d.Arm(n, k) })
			want := api.ErrDead
			if n == 5 {
				want = api.OK
			}
			is(t, w.commits("x", value), want)
			w.drop()
			w.onDisks(func(d *disk.Disk) { d.Crash(0) })
			h := history{full.m.at, made}
			_, at := h.opened(t, w.d)
			// The record is there, if all its bytes were left.
			if left := n == 4 && k >= 8+2+4+1+1000; at == 1 != left {
				t.Errorf("%d, %d: %d", n, k, at)
			}
		}
	}
}

// A log of the last generation can have no checkpoint: where there is no room, there is none for good, but nothing is dead.
func TestP114TheLastGeneration(t *testing.T) {
	var values, records []string
	for n := range 16 {
		values = append(values, strings.Repeat(string(rune('a'+n)), 4096))
		records = append(records, theRecord(puts(0, 15, values[n])...))
	}
	d := newDisk(t, theFile(lastGeneration, "", records...), "")
	s := opened(t, d)
	is(t, s.Checkpoint(), api.ErrWalFull)
	tx := s.Begin()
	for i := range 15 {
		tx.Put(fmt.Sprintf("%05d", i), values[0])
	}
	is(t, tx.Commit(), api.OK)
	tx, other := s.Begin(), s.Begin()
	for i := range 16 {
		tx.Put(fmt.Sprintf("%05d", i), "")
	}
	is(t, tx.Commit(), api.OK)
	is(t, other.Commit(), api.ErrStoreDone)
	size := d.Size(0)
	want := s.Scan("", all)
	tx, other = s.Begin(), s.Begin()
	for i := range 15 {
		tx.Put(fmt.Sprintf("%05d", i), strings.Repeat("z", 4096))
	}
	is(t, tx.Commit(), api.ErrWalFull)
	is(t, tx.Commit(), api.ErrStoreDone)
	if s.Dead() || d.Size(0) != size || d.Size(1) != 0 || !slices.Equal(s.Scan("", all), want) {
		t.Errorf("%t, %d, %d", s.Dead(), d.Size(0), d.Size(1))
	}
	other.Put("small", "")
	is(t, other.Commit(), api.OK)
	gets(t, s, "small", "")
	gets(t, opened(t, d), "small", "")
}

// Of several errors the first one that the promise names.
func TestP114TheOrderOfErrors(t *testing.T) {
	w := newTwin(t)
	w.fill(0, 2048, "")
	tooMany := func(i int) {
		for k := range 513 {
			w.put(i, fmt.Sprint("new", k), "")
		}
	}
	late, lateAndLong, lateAndFull := w.begin(), w.begin(), w.begin()
	tooMany(lateAndLong)
	w.put(lateAndFull, "x", "")
	is(t, w.commits("00000", "v"), api.OK)
	long, full, none, over := w.begin(), w.begin(), w.begin(), w.begin()
	tooMany(long)
	w.put(full, "x", "")
	w.abort(over)
	is(t, w.commit(lateAndLong), api.ErrStoreDone)
	is(t, w.commit(lateAndFull), api.ErrStoreDone)
	is(t, w.commit(long), api.ErrStoreLong)
	is(t, w.commit(full), api.ErrStoreFull)
	again, more := w.begin(), w.begin()
	tooMany(again)
	w.put(more, "x", "")
	w.onDisks(func(d *disk.Disk) { d.Arm(1, 0) })
	is(t, w.sync(), api.ErrDead)
	for i, want := range map[int]api.Errno{over: api.ErrStoreDone, late: api.ErrDead, none: api.ErrDead, again: api.ErrDead, more: api.ErrDead} {
		is(t, w.commit(i), want)
		is(t, w.commit(i), api.ErrStoreDone)
	}
}

func TestP115SyncAndCheckpoint(t *testing.T) {
	w := newTwin(t)
	is(t, w.checkpoint(), api.OK)
	holds(t, w.d, "", theFile(2, ""))
	is(t, w.commits("b", "2", "a", ""), api.OK)
	is(t, w.sync(), api.OK)
	if w.d.Waiting() != 0 {
		t.Errorf("%d unsafe bytes", w.d.Waiting())
	}
	is(t, w.commits("c", "3"), api.OK)
	// What is not committed is not of the image.
	open := w.begin()
	w.put(open, "d", "4")
	is(t, w.checkpoint(), api.OK)
	holds(t, w.d, theFile(3, bytesOf("00 00 00 03 01 01 61 00 00 01 01 62 00 01 32 01 01 63 00 01 33")), "")
	if w.d.Waiting() != 0 {
		t.Errorf("%d unsafe bytes", w.d.Waiting())
	}
	is(t, w.commit(open), api.OK)
	is(t, w.deletes("a", "b", "c", "d"), api.OK)
	is(t, w.checkpoint(), api.OK)
	holds(t, w.d, "", theFile(4, ""))
	tells(t, opened(t, w.d), nil, false)
}

// Whatever answers ErrDead leaves the store dead, also when the disk lives again; what it told before it tells still.
func TestP115Dead(t *testing.T) {
	for name, dies := range map[string]func(w *twin) api.Errno{
		"Commit":     func(w *twin) api.Errno { return w.commits("b", "2") },
		"Delete":     func(w *twin) api.Errno { return w.deletes("a") },
		"Sync":       (*twin).sync,
		"Checkpoint": (*twin).checkpoint,
	} {
		for _, gone := range []func(d *disk.Disk){
			func(d *disk.Disk) { d.Arm(1, 3) },
			func(d *disk.Disk) { d.Crash(3) },
		} {
			w := newTwin(t)
			is(t, w.commits("a", "1"), api.OK)
			before := w.begin()
			w.put(before, "c", "3")
			w.onDisks(gone)
			if w.s.Dead() {
				t.Errorf("%s: dead ahead of it", name)
			}
			is(t, dies(w), api.ErrDead)
			w.onDisks((*disk.Disk).Revive)
			tells(t, w.s, map[string]string{"a": "1"}, true)
			is(t, w.sync(), api.ErrDead)
			is(t, w.checkpoint(), api.ErrDead)
			is(t, w.commit(before), api.ErrDead)
			is(t, w.commits(), api.ErrDead)
			// A transaction of the dead sees what was there, and its own.
			i := w.begin()
			is(t, w.put(i, "d", "4"), api.OK)
			is(t, w.delete(i, "a"), api.OK)
			is(t, w.put(i, "", ""), api.ErrStoreKey)
			has(t, w.txs[i], map[string]string{"d": "4"})
			is(t, w.commit(i), api.ErrDead)
			has(t, w.txs[i], nil)
			tells(t, w.s, map[string]string{"a": "1"}, true)
		}
	}
}

// A power that went between two calls is met by what comes to the disk, and by nothing else.
func TestP115ACrashThatIsNotYetMet(t *testing.T) {
	w := newTwin(t)
	late := w.begin()
	is(t, w.commits("a", "1"), api.OK)
	long := w.begin()
	for k := range 513 {
		w.put(long, fmt.Sprint("new", k), "")
	}
	none := w.begin()
	w.onDisks(func(d *disk.Disk) { d.Crash(0) })
	is(t, w.commit(late), api.ErrStoreDone)
	is(t, w.commit(none), api.OK)
	is(t, w.commit(long), api.ErrStoreLong)
	tells(t, w.s, map[string]string{"a": "1"}, false)
	is(t, w.commits("b", "2"), api.ErrDead)
	tells(t, w.s, map[string]string{"a": "1"}, true)
}

func TestP116Clone(t *testing.T) {
	w := newTwin(t)
	is(t, w.commits("a", "1", "b", "2"), api.OK)
	is(t, w.sync(), api.OK)
	is(t, w.commits("c", "3"), api.OK)
	i := w.begin()
	w.put(i, "d", "4")
	c := w.clone()
	c.same()
	// The transaction is the first one's, and what either commits is its own.
	is(t, c.commits("e", "5"), api.OK)
	w.same()
	is(t, w.commit(i), api.OK)
	c.same()
	is(t, c.deletes("a"), api.OK)
	is(t, w.commits("a", "9"), api.OK)
	c.same()
	w.same()
	tells(t, opened(t, w.d.Clone()), map[string]string{"a": "9", "b": "2", "c": "3", "d": "4"}, false)
	tells(t, opened(t, c.d.Clone()), map[string]string{"b": "2", "c": "3", "e": "5"}, false)
	is(t, c.checkpoint(), api.OK)
	w.same()
	c.onDisks(func(d *disk.Disk) { d.Crash(0) })
	is(t, c.sync(), api.ErrDead)
	w.same()
	is(t, w.sync(), api.OK)
	dead := c.clone()
	dead.onDisks((*disk.Disk).Revive)
	tells(t, dead.s, map[string]string{"b": "2", "c": "3", "e": "5"}, true)
	is(t, dead.sync(), api.ErrDead)
}

// A transaction of a clone's is in the way of the clone's alone.
func TestP116TransactionsOfClones(t *testing.T) {
	w := newTwin(t)
	is(t, w.commits("a", "1"), api.OK)
	c := w.clone()
	i, j := w.begin(), c.begin()
	w.put(i, "b", "w")
	c.put(j, "b", "c")
	is(t, c.commit(j), api.OK)
	is(t, w.commit(i), api.OK)
	tells(t, w.s, map[string]string{"a": "1", "b": "w"}, false)
	tells(t, c.s, map[string]string{"a": "1", "b": "c"}, false)
}

func TestR7Clones(t *testing.T) {
	r := rand.New(rand.NewSource(117))
	for range 200 {
		w := newTwin(t)
		for range 20 {
			w.anyStep(r)
		}
		c := w.clone()
		c.same()
		for range 20 {
			c.anyStep(r)
			w.same()
			w.anyStep(r)
			c.same()
		}
		if t.Failed() {
			return
		}
	}
}

// Calls of all kinds, in any order, also while others arm, crash and revive the disk.
func TestP114ManyCalls(t *testing.T) {
	r := rand.New(rand.NewSource(114))
	for range 1500 {
		w := newTwin(t)
		for range 60 {
			w.anyStep(r)
		}
		if t.Failed() {
			return
		}
	}
}

// Each row of a few calls, the power going in each change, with each part of the unsafe bytes left.
func TestP117EachRowOfCalls(t *testing.T) {
	steps := []step{commit("a", "1"), commit("a", "2", "b", ""), commit("a", "-"), {name: "Sync"}, {name: "Checkpoint"}}
	for _, a := range steps {
		for _, b := range steps {
			for _, c := range steps {
				for n := 1; eachK(t, []step{commit("a", "0", "c", "c"), a, b, c}, n); n++ {
				}
				if t.Failed() {
					return
				}
			}
		}
	}
}

// eachK: a row of steps, with the power going in the n-th change, and each part left; did it go?
func eachK(t *testing.T, row []step, n int) bool {
	t.Helper()
	most := 0
	for k := 0; k <= most+1; k++ {
		s, d := newStore(t)
		h := history{{}}
		d.Arm(n, k)
		for _, c := range row {
			most = max(most, d.Waiting()+50)
			var e api.Errno
			h, e = c.on(s, h)
			if e != api.OK {
				is(t, e, api.ErrDead)
				break
			}
		}
		if !d.Dead() {
			return false
		}
		h.opened(t, d)
	}
	return true
}

// Behind each call the power goes, with each part left: more bytes leave as many commits, or more, and all leave all.
func TestP117BetweenTwoCalls(t *testing.T) {
	r := rand.New(rand.NewSource(1170))
	for range 150 {
		s, d := newStore(t)
		h := history{{}}
		for i := range 12 {
			c := []step{commit(anyKey(r), anyValue(r)), commit(anyKey(r), "-", "count", fmt.Sprint(i)), commit("count", fmt.Sprint(i)), {name: "Sync"}, {name: "Checkpoint"}}[r.Intn(5)]
			var e api.Errno
			h, e = c.on(s, h)
			is(t, e, api.OK)
			last := 0
			for k := range d.Waiting() + 2 {
				crashed := d.Clone()
				crashed.Crash(k)
				_, at := h[last:].opened(t, crashed)
				last += at
			}
			if !maps.Equal(h[last], h[len(h)-1]) {
				t.Errorf("all bytes leave %q; want %q", h[last], h[len(h)-1])
			}
		}
	}
}

// Stores that go on behind a crash, and another one.
func TestP117CrashBehindCrash(t *testing.T) {
	r := rand.New(rand.NewSource(1171))
	for range 300 {
		s, d := newStore(t)
		h := history{{}}
		for i := range 60 {
			if r.Intn(5) == 0 {
				d.Arm(1+r.Intn(5), r.Intn(80))
			}
			c := []step{commit(anyKey(r), anyValue(r), anyKey(r), "-"), commit(anyKey(r), anyValue(r), "count", fmt.Sprint(i)), commit(anyKey(r), "-"), {name: "Sync"}, {name: "Checkpoint"}}[r.Intn(5)]
			h, _ = c.on(s, h)
			if r.Intn(12) == 0 {
				d.Crash(r.Intn(60))
			}
			if d.Dead() {
				var at int
				s, at = h.opened(t, d)
				h = history{h[at]}
			}
		}
		if t.Failed() {
			return
		}
	}
}

// Where others change the disk nothing is promised, but that each call ends and none panics.
func TestR1OthersChangeTheDisk(t *testing.T) {
	r := rand.New(rand.NewSource(1100))
	for range 300 {
		s, d := newStore(t)
		for range 20 {
			f := r.Intn(2)
			switch r.Intn(7) {
			case 0:
				d.Append(f, anyValue(r))
			case 1:
				d.Append(f, strings.Repeat("x", 1048576-d.Size(f)))
			case 2:
				d.Sync()
				d.Cut(f, r.Intn(d.Size(f)+1))
			case 3:
				d.Append(f, theFile(uint64(r.Intn(4)), "", theRecord(thePut("a", "b"))))
			case 4:
				if other, e := store.Open(d); e == api.OK {
					s = other
				}
			case 5:
				d.Arm(r.Intn(4), r.Intn(40))
			default:
				d.Revive()
			}
			commits(s, anyKey(r), anyValue(r))
			s.Sync()
			s.Checkpoint()
			s.Keys()
			s.Bytes()
			s.Scan("", 9)
			s = s.Clone(d)
		}
	}
}

func FuzzR1EndsAtAnything(f *testing.F) {
	f.Add(theImage(thePut("a", "1")), theRecord(thePut("a", "2")), theRecord(theDelete("a")), "key", 5)
	f.Add("", theRecord(thePut("a", "2"), thePut("b", "")), theRecord(theDelete("a"), thePut("c", "x")), "", -1)
	f.Add(theImage(puts(0, 20, "v")...), theRecord(puts(0, 20, "w")...), "\xff\xff", strings.Repeat("k", 65), 0)
	f.Fuzz(func(t *testing.T, image, first, second, key string, most int) {
		if len(image) > 5000 || len(first)+len(second) > 5000 {
			return
		}
		d := newDisk(t, theFile(1, image, first, second), "")
		s, e := store.Open(d)
		if e != api.OK {
			refuses(t, d, api.ErrStoreForm)
			return
		}
		l := s.Scan("", all)
		if n := len(s.Scan(key, most)); n > max(most, 0) || n > len(l) {
			t.Errorf("%d of %d", n, len(l))
		}
		// Bytes that are read are those that are written.
		is(t, s.Checkpoint(), api.OK)
		c := opened(t, d)
		if !slices.Equal(c.Scan("", all), l) || c.Keys() != s.Keys() || c.Bytes() != s.Bytes() {
			t.Errorf("%q; want %q", c.Scan("", all), l)
		}
		written := newDisk(t, theFile(1, image), "")
		s = opened(t, written)
		for i, rows := range [][]string{{first}, {first, second}} {
			state := opened(t, newDisk(t, theFile(1, image, rows...), ""))
			if is(t, follow(s, state), api.OK); t.Failed() {
				t.Fatal(i)
			}
		}
		holds(t, written, theFile(1, image, first, second), "")
		commits(s, key, image)
		deletes(s, key, key)
		s.Get(key)
	})
}

// follow: one transaction makes of a store what another one is.
func follow(s, other *store.Store) api.Errno {
	tx := s.Begin()
	for _, p := range s.Scan("", all) {
		if _, ok := other.Get(p.Key); !ok {
			tx.Delete(p.Key)
		}
	}
	for _, p := range other.Scan("", all) {
		tx.Put(p.Key, p.Value)
	}
	return tx.Commit()
}

// R4: what is handed in may change behind a call, and what is answered is the caller's.
func TestR4NothingIsShared(t *testing.T) {
	s, d := newStore(t)
	tx := s.Begin()
	key, value := []byte("key"), []byte("value")
	is(t, tx.Put(unsafe.String(&key[0], len(key)), unsafe.String(&value[0], len(value))), api.OK)
	is(t, tx.Put("other", "x"), api.OK)
	copy(key, "XXX")
	copy(value, "YYYYY")
	want := map[string]string{"key": "value", "other": "x"}
	has(t, tx, want)
	l := tx.Scan("", all)
	l[0] = api.Pair{Key: "zzz", Value: "zzz"}
	l = append(l[:1], api.Pair{Key: "more"})
	has(t, tx, want)
	is(t, tx.Commit(), api.OK)
	c := s.Clone(d.Clone())
	l = s.Scan("", 1)
	l[0].Value = "changed"
	l = append(l, api.Pair{Key: "more"})
	for _, x := range []*store.Store{s, c, opened(t, d)} {
		tells(t, x, want, false)
	}
	// Two answers have nothing in common, nor has an answer with what is kept.
	for _, x := range []viewer{s, s.Begin()} {
		a, _ := x.Get("key")
		b, _ := x.Get("key")
		first, second := x.Scan("key", 1), x.Scan("key", 1)
		at := []*byte{unsafe.StringData(a), unsafe.StringData(b), unsafe.StringData(first[0].Value), unsafe.StringData(second[0].Value)}
		for i, p := range at {
			if slices.Contains(at[:i], p) {
				t.Errorf("%d", i)
			}
		}
		if unsafe.SliceData(first) == unsafe.SliceData(second) || unsafe.StringData(first[0].Key) == unsafe.StringData(second[0].Key) {
			t.Error("one list")
		}
	}
}

// R5: what one store is asked hangs on no other one, nor on the order in which its pairs lie.
func TestR5NothingIsKept(t *testing.T) {
	var g sync.WaitGroup
	answers := make([]string, 8)
	for i := range answers {
		g.Go(func() {
			r := rand.New(rand.NewSource(int64(i % 2)))
			s, d := newStore(t)
			for range 60 {
				tx := s.Begin()
				for range 10 {
					tx.Put(fmt.Sprint(r.Intn(50)), fmt.Sprint(r.Intn(3)))
					tx.Delete(fmt.Sprint(r.Intn(50)))
				}
				tx.Commit()
				if r.Intn(10) == 0 {
					s.Checkpoint()
				}
			}
			answers[i] = fmt.Sprintf("%q %q", s.Scan("", all), d.Files())
		})
	}
	g.Wait()
	for i := range answers {
		if answers[i] != answers[i%2] {
			t.Errorf("%s; %s", answers[i], answers[i%2])
		}
	}
}

// Those who only ask may do so at the same time.
func TestR5AskedAtTheSameTime(t *testing.T) {
	s, d := newStore(t)
	is(t, commits(s, "a", "1", "b", "2", "c", "3"), api.OK)
	var g sync.WaitGroup
	for range 8 {
		g.Go(func() {
			for range 50 {
				scans(t, s, "b", 9, "b", "2", "c", "3")
				gets(t, s, "a", "1")
				tx := s.Begin()
				tx.Put("d", "4")
				has(t, tx, map[string]string{"a": "1", "b": "2", "c": "3", "d": "4"})
				tx.Abort()
			}
		})
	}
	g.Wait()
	if !bytes.Contains([]byte(d.Files()[0]), []byte(thePut("c", "3"))) {
		t.Error("no record")
	}
}
