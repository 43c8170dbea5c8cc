package cbor_test

import (
	"encoding/binary"
	"math"
	"math/rand"
	"strings"
	"testing"

	"seneschal/api"
	"seneschal/cbor"
)

func TestP32Numbers(t *testing.T) {
	for digits, n := range map[string]int{
		"00": 0, "01": 1, "17": 23, "18 18": 24, "18 ff": 255, "19 01 00": 256, "19 ff ff": 65535, "1a 00 01 00 00": 65536, "1a ff ff ff ff": 1<<32 - 1, "1b 00 00 00 01 00 00 00 00": 1 << 32, "1b 7f ff ff ff ff ff ff ff": math.MaxInt, "1b 01 23 45 67 89 ab cd ef": 0x123456789abcdef,
		"20": -1, "26": -7, "37": -24, "38 18": -25, "38 ff": -256, "39 01 00": -257, "39 ff ff": -65536, "3a 00 01 00 00": -65537, "3a ff ff ff ff": -1 << 32, "3b 00 00 00 01 00 00 00 00": -1<<32 - 1, "3b 7f ff ff ff ff ff ff ff": math.MinInt,
	} {
		goesBothWays(t, number(n), bytesOf(digits))
	}
}

func TestP32Items(t *testing.T) {
	for digits, v := range map[string]api.Cbor{
		"40": octets(""), "42 01 02": octets("\x01\x02"), "41 ff": octets("\xff"),
		"60": text(""), "62 c3 a9": text("é"), "61 61": text("a"), "61 00": text("\x00"), "64 f0 9f 98 80": text("\U0001F600"),
		"80": list(), "81 00": list(number(0)), "82 01 80": list(number(1), list()), "83 20 40 60": list(number(-1), octets(""), text("")),
		"a0": pairs(), "a1 00 00": pairs(number(0), number(0)), "a2 01 02 20 61 61": pairs(number(1), number(2), number(-1), text("a")),
		"a3 18 18 a0 39 01 00 80 60 40": pairs(number(24), pairs(), number(-257), list(), text(""), octets("")),
		"a2 61 62 01 62 61 61 02":       pairs(text("b"), number(1), text("aa"), number(2)),
		"82 a1 01 01 a1 01 01":          list(pairs(number(1), number(1)), pairs(number(1), number(1))),
	} {
		goesBothWays(t, v, bytesOf(digits))
	}
}

// The edges of a head's length, where bytes, texts, lists and maps can be so long.
func TestP32Lengths(t *testing.T) {
	for n, head := range map[int]string{0: "00", 1: "01", 23: "17", 24: "18 18", 25: "18 19", 255: "18 ff", 256: "19 01 00", 257: "19 01 01", 1000: "19 03 e8"} {
		kind := func(k byte) string {
			b := []byte(bytesOf(head))
			b[0] |= k << 5
			return string(b)
		}
		a := strings.Repeat("a", n)
		goesBothWays(t, octets(a), kind(2)+a)
		goesBothWays(t, text(a), kind(3)+a)
		l := make([]api.Cbor, n)
		goesBothWays(t, list(l...), kind(4)+strings.Repeat("\x00", n))
		var m []api.Cbor
		var s strings.Builder
		for i := range n {
			m = append(m, number(i), number(-1))
			s.WriteString(headed(0, uint64(i)) + "\x20")
		}
		goesBothWays(t, pairs(m...), kind(5)+s.String())
	}
}

func TestP32EncodeRefuses(t *testing.T) {
	keeps(t, text("\xff"), api.ErrCborForm)
	keeps(t, list(number(1), api.Cbor{Kind: api.CborKinds}), api.ErrCborForm)
	keeps(t, pairs(number(1)), api.ErrCborForm)
	keeps(t, pairs(number(1), number(1), number(1), number(1)), api.ErrCborForm)
	keeps(t, pairs(octets("a"), number(1)), api.ErrCborForm)
	keeps(t, api.Cbor{Kind: api.CborInt, Text: "a"}, api.ErrCborForm)
	keeps(t, within(api.MaxDepth, list()), api.ErrCborDeep)
	// Check's error is named ahead of the length.
	long := octets(strings.Repeat("a", api.MaxCbor+1))
	keeps(t, list(long, text("\xff")), api.ErrCborForm)
	keeps(t, list(long, within(api.MaxDepth, number(1))), api.ErrCborDeep)
	keeps(t, text(long.Text+"\xff"), api.ErrCborForm)
	keeps(t, pairs(number(1), long, number(1), long), api.ErrCborForm)
}

func TestP32EncodeOfManyBytes(t *testing.T) {
	a := strings.Repeat("a", api.MaxCbor-3) // its head has three bytes
	goesBothWays(t, octets(a), "\x59\x0f\xfd"+a)
	goesBothWays(t, text(a), "\x79\x0f\xfd"+a)
	keeps(t, octets(a+"a"), api.ErrCborLong)
	keeps(t, text(a+"a"), api.ErrCborLong)
	goesBothWays(t, list(text(a[1:])), "\x81\x79\x0f\xfc"+a[1:])
	keeps(t, list(text(a)), api.ErrCborLong)
	goesBothWays(t, pairs(text(a[2:]), number(1)), "\xa1\x79\x0f\xfb"+a[2:]+"\x01")
	keeps(t, pairs(text(a[2:]), number(24)), api.ErrCborLong)
	keeps(t, pairs(text(a[1:]), number(1)), api.ErrCborLong)
	keeps(t, list(text(a[1:]), number(1)), api.ErrCborLong)
	keeps(t, list(text(a[1:]), list()), api.ErrCborLong)
	l := make([]api.Cbor, api.MaxCbor-3)
	goesBothWays(t, list(l...), "\x99\x0f\xfd"+strings.Repeat("\x00", len(l)))
	keeps(t, list(append(l, number(0))...), api.ErrCborLong)
	// The edges of a head's length that no bytes can have behind them.
	for _, n := range []int{65535, 65536, 1 << 22} {
		keeps(t, octets(strings.Repeat("a", n)), api.ErrCborLong)
		keeps(t, list(make([]api.Cbor, n)...), api.ErrCborLong)
	}
}

func TestP32DecodeOfManyBytes(t *testing.T) {
	reads(t, "\x01"+strings.Repeat("\xff", api.MaxCbor-1), number(1), 1)
	refuses(t, "\x01"+strings.Repeat("\xff", api.MaxCbor), api.ErrCborLong)
	// The length is named ahead of all else.
	for s, want := range map[string]api.Errno{"\xff": api.ErrCborText, "\x81": api.ErrCborDeep, "\x9b": api.ErrCborText} {
		refuses(t, strings.Repeat(s, api.MaxCbor), want)
		refuses(t, strings.Repeat(s, api.MaxCbor+1), api.ErrCborLong)
	}
}

func TestP32DecodeOfExamples(t *testing.T) {
	reads(t, "\x01\xff", number(1), 1)
	for _, digits := range []string{"", "18 17", "1c", "61 ff", "f6", "5f", "82 01", "a2 20 00 01 00", "a1 80 00", "3b 80 00 00 00 00 00 00 00"} {
		refuses(t, bytesOf(digits), api.ErrCborText)
	}
	refuses(t, strings.Repeat("\x81", 17)+"\x00", api.ErrCborDeep)
	reads(t, strings.Repeat("\x81", 16)+"\x00", within16(), 17)
}

// within16: a number in as many lists as may be.
func within16() api.Cbor {
	v := number(0)
	for range api.MaxDepth {
		v = list(v)
	}
	return v
}

// Each first byte: that of a head, or of none.
func TestP32DecodeOfEachFirstByte(t *testing.T) {
	rest := strings.Repeat("\x00", 600)
	for c := range 256 {
		kind, low := c>>5, c&31
		s := string([]byte{byte(c)})
		agrees(t, s)
		agrees(t, s+rest)
		if kind > 5 || low > 27 {
			refuses(t, s+rest, api.ErrCborText)
			refuses(t, "\x81"+s+rest, api.ErrCborText)
		}
		if kind <= 1 && low < 24 {
			reads(t, s+rest, number([]int{low, -1 - low}[kind]), 1)
		}
	}
}

// Heads of each kind: at the edges as short as can be, and longer than they need be.
func TestP32DecodeOfHeads(t *testing.T) {
	for kind := range 6 {
		for _, n := range []uint64{0, 1, 23, 24, 255, 256, 65535, 65536, 1<<32 - 1, 1 << 32, math.MaxInt64, 1 << 63, math.MaxUint64} {
			for low, size := range map[byte]int{24: 1, 25: 2, 26: 4, 27: 8} {
				eight := binary.BigEndian.AppendUint64(nil, n)
				if size < 8 && n>>(8*size) > 0 {
					continue
				}
				s := string([]byte{byte(kind<<5) | low}) + string(eight[8-size:])
				behind := strings.Repeat("\x00", 600)
				if kind == 5 {
					behind = strings.Repeat("\xff", 600)
				}
				agrees(t, s+behind)
				for end := range s {
					refuses(t, s[:end], api.ErrCborText)
				}
				if n > math.MaxInt64 || s != headed(kind, n) {
					refuses(t, s+behind, api.ErrCborText)
				} else if kind == 0 {
					reads(t, s+behind, number(int(n)), len(s))
				} else if kind == 1 {
					reads(t, s+behind, number(-1-int(n)), len(s))
				} else if n > api.MaxCbor {
					// It is a head, but the item is not whole at the end.
					refuses(t, s+behind, api.ErrCborText)
				}
			}
		}
	}
}

func TestP32DecodeOfKeys(t *testing.T) {
	keys := []api.Cbor{}
	for _, k := range risingKeys() {
		if len(k.Text) < 1000 {
			keys = append(keys, k)
		}
	}
	for i, a := range keys {
		for j, b := range keys {
			s := "\xa2" + laid(a) + "\x07" + laid(b) + "\x01"
			if i < j {
				reads(t, s+"\xff", pairs(a, number(7), b, number(1)), len(s))
			} else {
				refuses(t, s, api.ErrCborText)
				refuses(t, "\x81"+s, api.ErrCborText)
			}
		}
	}
	for _, digits := range []string{"40", "41 61", "80", "81 01", "a0", "a1 01 01"} {
		k := bytesOf(digits)
		refuses(t, "\xa1"+k+"\x00", api.ErrCborText)
		refuses(t, "\xa2\x00\x00"+k+"\x00", api.ErrCborText)
		refuses(t, "\xa2"+k+"\x00\x61\x61\x00", api.ErrCborText)
	}
	// A key may come again in another map, and as a value.
	reads(t, "\xa2\x01\xa1\x01\x01\x02\xa1\x01\x01", pairs(number(1), pairs(number(1), number(1)), number(2), pairs(number(1), number(1))), 9)
}

func TestP32DecodeOfTexts(t *testing.T) {
	for _, s := range notUtf8 {
		b, x := headed(2, uint64(len(s)))+s, headed(3, uint64(len(s)))+s
		reads(t, b, octets(s), len(b))
		for _, wrong := range []string{x, "\x81" + x, "\xa1" + x + "\x00", "\xa1\x00" + x} {
			refuses(t, wrong, api.ErrCborText)
		}
	}
	// It is a text of its own, whatever stands behind it.
	refuses(t, "\x61\xc3\xa9", api.ErrCborText)
	refuses(t, "\x82\x61\xc3\x61\xa9", api.ErrCborText)
}

// All that can stand at an end too soon, and all that can stand behind.
func TestP32DecodeOfEachBeginning(t *testing.T) {
	for _, v := range samples() {
		s, e := cbor.Encode(v)
		if e != api.OK {
			t.Fatal(e)
		}
		for end := range len(s) {
			refuses(t, s[:end], api.ErrCborText)
		}
		goesBothWays(t, v, s)
	}
}

func TestP32DecodeOfDeepBytes(t *testing.T) {
	const most = api.MaxDepth
	lists, maps := strings.Repeat("\x81", most), strings.Repeat("\xa1\x00", most)
	for s, want := range map[string]api.Errno{
		lists + "\x00":                  api.OK,
		lists + "\x61a":                 api.OK,
		lists[1:] + "\x80":              api.OK,
		lists[1:] + "\xa0":              api.OK,
		lists + "\x80":                  api.ErrCborDeep,
		lists + "\xa0":                  api.ErrCborDeep,
		lists + "\x81\x00":              api.ErrCborDeep,
		maps + "\x00":                   api.OK,
		maps + "\x80":                   api.ErrCborDeep,
		maps + "\xa0":                   api.ErrCborDeep,
		maps + "\xa1\x00\x00":           api.ErrCborDeep,
		lists[:8] + maps[:16] + "\x00":  api.OK,
		lists[:8] + maps[:16] + "\x80":  api.ErrCborDeep,
		lists[:9] + maps[:16] + "\x00":  api.ErrCborDeep,
		"\x9f":                          api.ErrCborText,
		lists[1:] + "\x82\x00\x80":      api.ErrCborDeep,
		maps[2:] + "\xa2\x00\x00\x01":   api.ErrCborText,
		maps[2:] + "\xa1\x00\x00" + "x": api.OK,
		// What stands beside one another is not within one another.
		"\x82" + lists[1:] + "\x00" + lists[1:] + "\x00":                          api.OK,
		"\x82" + lists[1:] + "\x00" + lists + "\x00":                              api.ErrCborDeep,
		"\xa2\x00" + maps[2:] + "\x00\x01" + maps[2:] + "\x00":                    api.OK,
		"\xa2\x00" + maps[2:] + "\x00\x01" + maps + "\x00":                        api.ErrCborDeep,
		"\x83\x80\xa0" + lists[1:] + "\x00":                                       api.OK,
		"\x98\x18" + strings.Repeat("\x80", 23) + lists[1:] + "\x00":              api.OK,
		"\x98\x18" + strings.Repeat("\x80", 23) + lists[3:] + "\x82\x80\xa0":      api.OK,
		"\x98\x18" + strings.Repeat("\xa0", 23) + lists[1:] + "\x80":              api.ErrCborDeep,
		"\x82\x82" + lists[3:] + "\x00\x00" + lists[2:] + "\x82\x00\x00" + "\xff": api.OK,
		"\x82\x82" + lists[3:] + "\x00\x00" + lists[2:] + "\x82\x00\x80" + "\xff": api.ErrCborDeep,
	} {
		v, _, e := cbor.Decode(s)
		if e != want || e != api.OK && !isNone(v) {
			t.Errorf("%x: %s, %d; want %d", s, told(v), e, want)
		}
		agrees(t, s)
	}
}

// What is wrong behind the head that is too deep comes later.
func TestP32DecodeTheFirstPartDecidesTooDeep(t *testing.T) {
	lists := strings.Repeat("\x81", api.MaxDepth)
	for _, s := range []string{
		lists + "\x81",
		lists + "\x81\xff",
		lists + "\x98\x18",
		lists + "\x9b\x7f\xff\xff\xff\xff\xff\xff\xff",
		lists + "\xbb\x7f\xff\xff\xff\xff\xff\xff\xff",
		lists + "\xa2\x00\x00\x00\x00",
		lists + "\xa1\x80",
		"\x82" + lists + "\x00\xff",
		"\xa2\x01" + lists + "\x00\x00\x00",
		"\x9b\x7f\xff\xff\xff\xff\xff\xff\xff\x00" + lists,
		"\xbb\x7f\xff\xff\xff\xff\xff\xff\xff\x00" + lists,
		"\x84" + lists,
	} {
		refuses(t, s, api.ErrCborDeep)
		agrees(t, s)
	}
}

// What is wrong ahead of a head that is too deep comes first.
func TestP32DecodeTheFirstPartDecidesAhead(t *testing.T) {
	lists := strings.Repeat("\x81", api.MaxDepth)
	for _, s := range []string{
		"\x82\x61\xff" + lists + "\x81",
		"\x82\x18\x17" + lists + "\x81",
		"\x82\xf6" + lists + "\x81",
		"\xa2\x01\x00\x00" + lists + "\x81",
		"\xa2\x01\x00\x01" + lists + "\x81",
		"\xa1\x40" + lists + "\x81",
		"\xa1\x80" + lists + "\x81",
		"\xa1\xa1\x00\x00" + lists + "\x81",
		"\xa1\xa1\x41a" + lists + "\x81",
		"\x9b\x80\x00\x00\x00\x00\x00\x00\x00" + lists,
		"\x98\x17" + lists + "\x81",
		"\x78\x20" + lists + "\x81",
		"\x5b\x7f\xff\xff\xff\xff\xff\xff\xff" + lists + "\x81",
	} {
		refuses(t, s, api.ErrCborText)
		agrees(t, s)
	}
}

// Within a key, what is wrong comes ahead of its end, where it is held against its map.
func TestP32DecodeTheFirstPartDecidesWithinAKey(t *testing.T) {
	lists := strings.Repeat("\x81", api.MaxDepth)
	maps := strings.Repeat("\xa1\x00", api.MaxDepth-1) + "\xa1" // a key comes next, within MaxDepth others
	for s, want := range map[string]api.Errno{
		"\xa1" + lists + "\x00":                 api.ErrCborDeep,
		"\xa1" + lists[1:] + "\x00\x00":         api.ErrCborText,
		"\xa1\x81" + lists + "\x00":             api.ErrCborDeep,
		"\xa2\x01\x00\x82\x00" + lists + "\x00": api.ErrCborDeep,
		"\xa1\x82\xff" + lists + "\x00":         api.ErrCborText,
		maps + "\x80":                           api.ErrCborDeep,
		maps + "\xa0":                           api.ErrCborDeep,
		maps + "\x81\xff":                       api.ErrCborDeep,
		maps + "\x40":                           api.ErrCborText,
		maps + "\x40\x80":                       api.ErrCborText,
		maps + "\x00\x80":                       api.ErrCborDeep,
	} {
		refuses(t, s, want)
		agrees(t, s)
	}
}

// What is no head is that, however deep.
func TestP32DecodeOfNoHeadsTooDeep(t *testing.T) {
	lists := strings.Repeat("\x81", api.MaxDepth)
	for s, want := range map[string]api.Errno{
		lists:                          api.ErrCborText,
		lists + "\x98":                 api.ErrCborText,
		lists + "\x98\x17":             api.ErrCborText,
		lists + "\x99\x00":             api.ErrCborText,
		lists + "\x99\x00\xff":         api.ErrCborText,
		lists + "\x9a\x00\x00\xff\xff": api.ErrCborText,
		lists + "\x9b\x80\x00\x00\x00\x00\x00\x00\x00": api.ErrCborText,
		lists + "\xbb\x00\x00\x00\x00\xff\xff\xff\xff": api.ErrCborText,
		lists + "\x9c":             api.ErrCborText,
		lists + "\x9f\x81":         api.ErrCborText,
		lists + "\xbf\x81":         api.ErrCborText,
		lists + "\xc1\x81":         api.ErrCborText,
		lists + "\xf6":             api.ErrCborText,
		lists + "\x61\xff":         api.ErrCborText,
		lists[1:] + "\x82\x00":     api.ErrCborText,
		lists[1:] + "\x82\x80":     api.ErrCborDeep,
		lists[1:] + "\xa1\x80\x80": api.ErrCborDeep,
	} {
		refuses(t, s, want)
		agrees(t, s)
	}
}

// short: all items of one, two and three bytes, by their bytes.
func short() map[string]api.Cbor {
	all := map[string]api.Cbor{}
	add := func(v api.Cbor) {
		if s := laid(v); len(s) <= 3 {
			all[s] = v
		}
	}
	for n := range 1 << 16 {
		add(number(n))
		add(number(-1 - n))
	}
	for _, v := range []api.Cbor{octets(""), text(""), list(), pairs()} {
		add(v)
	}
	for a := range 256 {
		add(octets(string([]byte{byte(a)})))
		for b := range 256 {
			add(octets(string([]byte{byte(a), byte(b)})))
			if a < 128 && b < 128 {
				add(text(string([]byte{byte(a), byte(b)})))
			}
		}
	}
	for r := range rune(0x800) {
		add(text(string(r)))
	}
	addLists(all, add)
	return all
}

// addLists: those lists and maps that have one or two items of those that are there.
func addLists(all map[string]api.Cbor, add func(api.Cbor)) {
	for range 2 { // lists of lists, too
		var one, two []api.Cbor
		for s, v := range all {
			if len(s) == 1 {
				one = append(one, v)
			}
			if len(s) <= 2 {
				two = append(two, v)
			}
		}
		for _, v := range two {
			add(list(v))
		}
		for _, a := range one {
			for _, b := range one {
				add(list(a, b))
				if a.Kind == api.CborInt || a.Kind == api.CborText {
					add(pairs(a, b))
				}
			}
		}
	}
}

// Bytes that begin no short item are refused, and of those that do the item is told: each two bytes there are, and what may stand third.
func TestP34EachShortItem(t *testing.T) {
	all := short()
	if len(all) != 52+900+2*65280+65536+16384+1920+2704+900+49*52 {
		t.Fatalf("%d items", len(all))
	}
	for s, v := range all {
		if x, e := cbor.Encode(v); x != s || e != api.OK {
			t.Errorf("%s: %x, %d; want %x", told(v), x, e, s)
		}
		reads(t, s, v, len(s))
		if _, is := all[s[:1]]; is && len(s) > 1 {
			t.Errorf("%x begins another one", s[:1])
		}
		if _, is := all[s[:len(s)-1]]; is && len(s) > 1 {
			t.Errorf("%x begins another one", s[:len(s)-1])
		}
	}
	for a := range 256 {
		for b := range 256 {
			for _, c := range []byte("\x00\x01\x17\x18\x1b\x20\x40\x60\x61\x7f\x80\x81\xa0\xa1\xa9\xbf\xc2\xf6\xff") {
				s := string([]byte{byte(a), byte(b), c})
				found := false
				for n := 1; n <= 3 && !found; n++ {
					var v api.Cbor
					if v, found = all[s[:n]]; found {
						reads(t, s, v, n)
					}
				}
				if !found {
					refuses(t, s, api.ErrCborText)
				}
			}
		}
	}
}

func TestP34WhatIsToldIsReadAgain(t *testing.T) {
	for _, v := range samples() {
		s, e := cbor.Encode(v)
		if e != api.OK || s != laid(v) {
			t.Errorf("%s: %x, %d; want %x", told(v), s, e, laid(v))
		}
		goesBothWays(t, v, s)
	}
}

// Bytes by chance, and items' bytes with one thing changed.
func TestP34BytesThatComeByChance(t *testing.T) {
	r := rand.New(rand.NewSource(4))
	pieces := []string{"\x00", "\x01", "\x17", "\x18", "\x18\x18", "\x19\x01\x00", "\x20", "\x38\xff", "\x40", "\x41\xff", "\x60", "\x61a", "\x62\xc3\xa9", "\x61\xff", "\x80", "\x81", "\x82", "\x83", "\x84", "\xa0", "\xa1", "\xa2", "\xa3", "\x98\x18", "\xb8\x18", "\x9f", "\xc0", "\xf6", "\xff", "\x81\x81\x81\x81\x81", "\xa1\x00\xa1\x00\xa1\x00"}
	for range 300000 {
		var b strings.Builder
		for range r.Intn(12) {
			b.WriteString(pieces[r.Intn(len(pieces))])
		}
		agrees(t, b.String())
	}
	for _, v := range samples() {
		s, _ := cbor.Encode(v)
		for at := range len(s) {
			agrees(t, s[:at]+s[at+1:])
			agrees(t, s[:at]+pieces[r.Intn(len(pieces))]+s[at:])
			agrees(t, s[:at]+string([]byte{s[at] ^ 1<<r.Intn(8)})+s[at+1:])
			agrees(t, s[:at]+string([]byte{s[at] + 1})+s[at+1:])
		}
	}
}

// R1: each call ends at any bytes, and none panics.
func FuzzR1EndsAtAnyBytes(f *testing.F) {
	f.Add(bytesOf("a2 01 02 20 61 61"))
	f.Add(bytesOf("82 01 80"))
	f.Add(bytesOf("9b 7f ff ff ff ff ff ff ff 00"))
	f.Add(strings.Repeat("\x81", 17))
	f.Fuzz(agrees)
}
