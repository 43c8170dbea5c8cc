package cbor_test

import (
	"math"
	"strings"
	"testing"

	"seneschal/api"
	"seneschal/cbor"
)

// notUtf8: texts that are none.
var notUtf8 = []string{"\xff", "a\xc3", "\xc3a", "\xed\xa0\x80", "\xc0\x80", "\xf4\x90\x80\x80", "\x80", "\xe2\x82"}

func TestP31WhatMayBe(t *testing.T) {
	for _, n := range []int{0, 1, 23, 24, 255, 256, 65535, 65536, 1<<32 - 1, 1 << 32, math.MaxInt, -1, -24, -25, -256, -257, math.MinInt} {
		checks(t, number(n), api.OK)
	}
	for _, s := range []string{"", "a", "a\x00é\U0001F600\x7f"} {
		checks(t, octets(s), api.OK)
		checks(t, text(s), api.OK)
	}
	checks(t, list(), api.OK)
	checks(t, pairs(), api.OK)
	checks(t, list(number(1), octets("a"), text("a"), list(), list(list(), pairs())), api.OK)
	checks(t, pairs(number(1), number(2), number(-1), octets("\xff"), text("a"), pairs()), api.OK)
	// A key may come again in another map.
	checks(t, pairs(number(1), pairs(number(1), number(1)), number(2), pairs(number(1), number(1))), api.OK)
	// A nil list and an empty one are the same.
	for kind := range api.CborKinds {
		checks(t, api.Cbor{Kind: kind}, api.OK)
		checks(t, api.Cbor{Kind: kind, List: []api.Cbor{}}, api.OK)
	}
	for _, v := range samples() {
		checks(t, v, api.OK)
	}
	// Check leaves it aside how many bytes an item has.
	checks(t, text(strings.Repeat("a", api.MaxCbor+1)), api.OK)
}

func TestP31Kinds(t *testing.T) {
	for _, kind := range []int{-1, api.CborKinds, api.CborKinds + 1, math.MaxInt, math.MinInt} {
		checks(t, api.Cbor{Kind: kind}, api.ErrCborForm)
		checks(t, list(number(1), api.Cbor{Kind: kind}), api.ErrCborForm)
		checks(t, pairs(number(1), api.Cbor{Kind: kind}), api.ErrCborForm)
		checks(t, pairs(api.Cbor{Kind: kind}, number(1)), api.ErrCborForm)
	}
}

func TestP31FieldsThatAKindDoesNotHave(t *testing.T) {
	own := []api.Cbor{number(1), octets("a"), text("a"), list(number(1)), pairs(number(1), number(1))}
	for kind, v := range own {
		if kind != api.CborInt {
			for _, n := range []int{1, -1, math.MinInt} {
				x := v
				x.Num = n
				checks(t, x, api.ErrCborForm)
				checks(t, list(x), api.ErrCborForm)
			}
		}
		if kind != api.CborBytes && kind != api.CborText {
			x := v
			x.Text = "a"
			checks(t, x, api.ErrCborForm)
			checks(t, pairs(number(1), x), api.ErrCborForm)
		}
		if kind != api.CborList && kind != api.CborMap {
			x := v
			x.List = []api.Cbor{number(1), number(1)}
			checks(t, x, api.ErrCborForm)
			checks(t, pairs(number(0), number(0), x, number(1)), api.ErrCborForm)
		}
	}
}

func TestP31Texts(t *testing.T) {
	for _, s := range notUtf8 {
		checks(t, octets(s), api.OK)
		checks(t, text(s), api.ErrCborForm)
		checks(t, list(text(s)), api.ErrCborForm)
		checks(t, pairs(text(s), number(1)), api.ErrCborForm)
		checks(t, pairs(number(1), text(s)), api.ErrCborForm)
	}
}

func TestP31HowManyElementsOfAMap(t *testing.T) {
	checks(t, pairs(number(1)), api.ErrCborForm)
	checks(t, pairs(number(1), number(1), number(2)), api.ErrCborForm)
	checks(t, pairs(number(1), number(1), number(2), number(2)), api.OK)
	checks(t, list(pairs(text("a"))), api.ErrCborForm)
}

func TestP31KeysKinds(t *testing.T) {
	for _, k := range []api.Cbor{octets(""), octets("a"), list(), list(number(1)), pairs(), {Kind: -1}, {Kind: api.CborKinds}} {
		checks(t, pairs(k, number(1)), api.ErrCborForm)
		checks(t, pairs(number(1), number(1), k, number(1)), api.ErrCborForm)
		checks(t, pairs(k, number(1), text("a"), number(1)), api.ErrCborForm)
	}
}

// risingKeys: keys, each with bytes that stand ahead of the next one's.
func risingKeys() []api.Cbor {
	l := []api.Cbor{}
	edges := []int{0, 1, 23, 24, 255, 256, 257, 65535, 65536, 1<<32 - 1, 1 << 32, math.MaxInt - 1, math.MaxInt}
	for _, n := range edges {
		l = append(l, number(n))
	}
	for _, n := range edges {
		l = append(l, number(-1-n))
	}
	long := strings.Repeat("a", 1<<16)
	for _, s := range []string{"", "\x00", "a", "b", "aa", "ab", "b\x00", "é", "b\x00\x00", "b\x00a", "é\x7f", long[:23], "b" + long[:22], long[:24], long[:255], long[:256], long[:1<<16-1], "b" + long[:1<<16-2], long} {
		l = append(l, text(s))
	}
	return l
}

func TestP31KeysOrder(t *testing.T) {
	keys := risingKeys()
	for i, a := range keys {
		for j, b := range keys {
			want := api.ErrCborForm
			if i < j {
				want = api.OK
			}
			v := pairs(a, number(7), b, number(1))
			if e := cbor.Check(v); e != want {
				t.Errorf("keys %d and %d: %d; want %d", i, j, e, want)
			}
			if e := cbor.Check(list(number(1), v)); e != want {
				t.Errorf("keys %d and %d in a list: %d; want %d", i, j, e, want)
			}
		}
	}
	var all []api.Cbor
	for _, k := range keys {
		all = append(all, k, number(0))
	}
	checks(t, pairs(all...), api.OK)
	checks(t, pairs(append(all, all[len(all)-2], number(0))...), api.ErrCborForm)
}

func TestP31Depth(t *testing.T) {
	for _, inner := range []api.Cbor{number(1), octets("a"), text("a")} {
		checks(t, within(api.MaxDepth, inner), api.OK)
		checks(t, within(api.MaxDepth+1, inner), api.ErrCborDeep)
	}
	for _, inner := range []api.Cbor{list(), pairs(), list(number(1)), pairs(number(1), number(1))} {
		checks(t, within(api.MaxDepth-1, inner), api.OK)
		checks(t, within(api.MaxDepth, inner), api.ErrCborDeep)
		checks(t, within(api.MaxDepth+5, inner), api.ErrCborDeep)
	}
	// What stands beside one another is not within one another.
	checks(t, list(within(api.MaxDepth-1, number(1)), within(api.MaxDepth-1, number(1))), api.OK)
}

func TestP31TheFirstDecides(t *testing.T) {
	deep, wrong := within(api.MaxDepth, list()), text("\xff")
	checks(t, list(number(1), deep, wrong), api.ErrCborDeep)
	checks(t, list(number(1), wrong, deep), api.ErrCborForm)
	checks(t, pairs(number(1), deep, number(2), wrong), api.ErrCborDeep)
	checks(t, pairs(number(1), deep, wrong, number(2)), api.ErrCborDeep)
	checks(t, pairs(wrong, deep), api.ErrCborForm)
	checks(t, list(list(list(wrong)), deep), api.ErrCborForm)
	// An item is ahead of its elements.
	checks(t, api.Cbor{Kind: api.CborList, Text: "a", List: []api.Cbor{deep}}, api.ErrCborForm)
	checks(t, api.Cbor{Kind: api.CborMap, Num: 1, List: []api.Cbor{number(1), deep}}, api.ErrCborForm)
	checks(t, api.Cbor{Kind: api.CborText, List: []api.Cbor{deep}}, api.ErrCborForm)
	checks(t, api.Cbor{Kind: api.CborKinds, List: []api.Cbor{deep}}, api.ErrCborForm)
	checks(t, pairs(number(1), deep, number(2)), api.ErrCborForm)
	checks(t, pairs(number(1), deep, number(1), number(1)), api.ErrCborForm)
	checks(t, pairs(number(2), deep, number(1), number(1)), api.ErrCborForm)
	checks(t, pairs(number(1), deep, octets("a"), number(1)), api.ErrCborForm)
	checks(t, pairs(deep, number(1)), api.ErrCborForm)
	// Of one item's faults, that it is too deep is named first.
	checks(t, within(api.MaxDepth, api.Cbor{Kind: api.CborList, Text: "a"}), api.ErrCborDeep)
	checks(t, within(api.MaxDepth, api.Cbor{Kind: api.CborMap, Num: 1}), api.ErrCborDeep)
	checks(t, within(api.MaxDepth, pairs(number(1))), api.ErrCborDeep)
	checks(t, within(api.MaxDepth, list(wrong)), api.ErrCborDeep)
	checks(t, within(api.MaxDepth, wrong), api.ErrCborForm)
	checks(t, within(api.MaxDepth, api.Cbor{Kind: -1, List: []api.Cbor{list()}}), api.ErrCborForm)
	// A key that is a list is its map's fault, however deep.
	checks(t, within(api.MaxDepth-1, pairs(list(), number(1))), api.ErrCborForm)
	checks(t, within(api.MaxDepth-1, pairs(number(1), list())), api.ErrCborDeep)
}

// A key's other fields are a fault of its own, behind its map's: its bytes are those of its kind.
func TestP31KeysThatMayNotBe(t *testing.T) {
	deep := within(api.MaxDepth, list())
	odd := api.Cbor{Kind: api.CborInt, Num: 2, Text: "z", List: []api.Cbor{number(1)}}
	checks(t, pairs(number(1), deep, odd, number(1)), api.ErrCborDeep)
	checks(t, pairs(odd, deep, number(3), number(1)), api.ErrCborForm)
	checks(t, pairs(number(2), deep, odd, number(1)), api.ErrCborForm)
	checks(t, pairs(number(1), number(1), odd, number(1)), api.ErrCborForm)
	textual := api.Cbor{Kind: api.CborText, Num: 9, Text: "b"}
	checks(t, pairs(text("a"), deep, textual, number(1)), api.ErrCborDeep)
	checks(t, pairs(text("b"), deep, textual, number(1)), api.ErrCborForm)
	checks(t, pairs(text("a"), number(1), textual, number(1)), api.ErrCborForm)
	checks(t, pairs(text("a"), deep, text("\xff"), number(1)), api.ErrCborDeep)
}

// R1: a list may be its own element, as a caller's slices go.
func TestR1CheckEndsAtAListWithinItself(t *testing.T) {
	l := []api.Cbor{number(1), number(2)}
	l[1] = list(l...)
	checks(t, list(l...), api.ErrCborDeep)
	keeps(t, list(l...), api.ErrCborDeep)
	l[1] = pairs(l...)
	checks(t, pairs(l...), api.ErrCborDeep)
}

// finds: both calls' answers in v for a number and a text.
func finds(t *testing.T, v api.Cbor, n int, s string, byInt, byText api.Cbor, isInt, isText bool) {
	t.Helper()
	if x, ok := cbor.ByInt(v, n); ok != isInt || !same(x, byInt) {
		t.Errorf("%s by %d: %s, %t", told(v), n, told(x), ok)
	}
	if x, ok := cbor.ByText(v, s); ok != isText || !same(x, byText) {
		t.Errorf("%s by %q: %s, %t", told(v), s, told(x), ok)
	}
}

func TestP33ValuesOfKeys(t *testing.T) {
	none := api.Cbor{}
	v := pairs(number(0), text("zero"), number(3), octets("three"), number(math.MaxInt), number(8), number(-1), list(number(4)), number(math.MinInt), number(9), text(""), number(7), text("a"), pairs(number(3), number(5)), text("é"), text("a"))
	finds(t, v, 0, "", text("zero"), number(7), true, true)
	finds(t, v, 3, "a", octets("three"), pairs(number(3), number(5)), true, true)
	finds(t, v, -1, "é", list(number(4)), text("a"), true, true)
	finds(t, v, math.MaxInt, "b", number(8), none, true, false)
	finds(t, v, math.MinInt, "A", number(9), none, true, false)
	// What stands as a value, or in a value, is no key.
	finds(t, v, 8, "zero", none, none, false, false)
	finds(t, v, 5, "three", none, none, false, false)
	finds(t, v, 4, "a\x00", none, none, false, false)
	finds(t, pairs(), 0, "", none, none, false, false)
	finds(t, pairs(number(5), number(3), text("b"), text("a")), 3, "a", none, none, false, false)
}

func TestP33KeysOfTheOtherKinds(t *testing.T) {
	none := api.Cbor{}
	for _, k := range []api.Cbor{octets("a"), {Kind: api.CborBytes, Num: 3, Text: "a"}, {Kind: api.CborList, Num: 3, Text: "a"}, {Kind: api.CborMap, Num: 3, Text: "a"}, {Kind: api.CborKinds, Num: 3, Text: "a"}, {Kind: -1, Num: 3, Text: "a"}} {
		finds(t, pairs(k, number(1)), 3, "a", none, none, false, false)
		finds(t, pairs(k, number(1), number(3), number(2), text("a"), number(4)), 3, "a", number(2), number(4), true, true)
	}
	finds(t, pairs(number(0), number(1)), 0, "", number(1), none, true, false)
	finds(t, pairs(text(""), number(1)), 0, "", none, number(1), false, true)
	finds(t, pairs(text("3"), number(1)), 3, "3", none, number(1), false, true)
}

// The item is not checked: the first key counts, in whatever order they stand, and whatever else is wrong with it.
func TestP33ItemsThatMayNotBe(t *testing.T) {
	none := api.Cbor{}
	finds(t, pairs(text("b"), number(1), number(3), number(2), text("a"), number(4), number(3), number(5), text("a"), number(6)), 3, "a", number(2), number(4), true, true)
	finds(t, pairs(number(3), api.Cbor{Kind: 9, Num: 1, Text: "x"}, text("\xff"), text("\xff")), 3, "\xff", api.Cbor{Kind: 9, Num: 1, Text: "x"}, text("\xff"), true, true)
	// A key at the end has no value.
	finds(t, pairs(number(3)), 3, "a", none, none, false, false)
	finds(t, pairs(text("a")), 3, "a", none, none, false, false)
	finds(t, pairs(number(3), number(1), text("a")), 3, "a", number(1), none, true, false)
	finds(t, pairs(text("a"), number(1), number(3)), 3, "a", none, number(1), false, true)
	// Other fields of the map, and of a key, are left aside.
	finds(t, api.Cbor{Kind: api.CborMap, Num: 7, Text: "x", List: []api.Cbor{{Kind: api.CborInt, Num: 3, Text: "a"}, number(1), {Kind: api.CborText, Num: 3, Text: "a"}, number(2)}}, 3, "a", number(1), number(2), true, true)
	for _, kind := range []int{-1, api.CborInt, api.CborBytes, api.CborText, api.CborList, api.CborKinds} {
		v := api.Cbor{Kind: kind, Num: 3, Text: "a", List: []api.Cbor{number(3), number(1), text("a"), number(2)}}
		finds(t, v, 3, "a", none, none, false, false)
	}
}

func TestP33SharesItsLists(t *testing.T) {
	v := pairs(number(1), list(number(1)), text("a"), list(number(2)))
	x, _ := cbor.ByInt(v, 1)
	y, _ := cbor.ByText(v, "a")
	if &x.List[0] != &v.List[1].List[0] || &y.List[0] != &v.List[3].List[0] {
		t.Error("copied")
	}
}

// R4: what is handed in stays as it is, and an answer is memory of its own.
func TestR4ListsAreTheCallers(t *testing.T) {
	make2 := func() api.Cbor {
		inner := []api.Cbor{text("a"), number(1), text("room")}
		l := []api.Cbor{number(1), list(inner[:2]...), text("b"), number(2), text("room"), text("more")}
		return pairs(l[:4]...)
	}
	v := make2()
	cbor.Check(v)
	cbor.Encode(v)
	cbor.ByInt(v, 1)
	cbor.ByText(v, "b")
	if !same(v, make2()) || !same(v.List[:6][4], text("room")) || !same(v.List[1].List[:3][2], text("room")) {
		t.Errorf("changed: %s", told(v))
	}
	const s = "\x84\x83\x01\x02\x03\x80\xa1\x01\x02\x80"
	one, _, _ := cbor.Decode(s)
	two, _, _ := cbor.Decode(s)
	one.List[0].List[0].Num = 9
	for _, l := range [][]api.Cbor{one.List[0].List[:1], one.List[1].List, one.List[2].List, one.List[3].List, one.List} {
		_ = append(l, number(7))
	}
	if x, e := cbor.Encode(two); x != s || e != api.OK {
		t.Errorf("shared: %x, %d", x, e)
	}
	if x, e := cbor.Encode(one); x != "\x84\x83\x09\x07\x03\x80\xa1\x01\x02\x80" || e != api.OK {
		t.Errorf("lists of one answer shared: %x, %d", x, e)
	}
}

// R5: nothing is kept from call to call, a refused one least of all.
func TestR5NothingIsKept(t *testing.T) {
	for range 2 {
		refuses(t, "\xa2\x01\x00\x00\x00", api.ErrCborText)
		reads(t, "\xa1\x00\x00", pairs(number(0), number(0)), 3)
		refuses(t, strings.Repeat("\x81", 99), api.ErrCborDeep)
		reads(t, "\x81\x80", list(list()), 2)
		keeps(t, text(strings.Repeat("a", api.MaxCbor)), api.ErrCborLong)
		goesBothWays(t, text("a"), "aa")
		checks(t, text("\xff"), api.ErrCborForm)
		checks(t, text("a"), api.OK)
	}
}
