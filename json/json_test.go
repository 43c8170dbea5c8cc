package json_test

import (
	"math"
	"slices"
	"strings"
	"testing"

	"seneschal/api"
	"seneschal/json"
)

func TestP21WhatMayBe(t *testing.T) {
	for _, v := range []api.Json{null, {Kind: api.JsonFalse}, {Kind: api.JsonTrue}, text(""), text("a\x00é\U0001F600\x7f"), list(), object(nil)} {
		checks(t, v, api.OK)
	}
	for _, s := range goodNumbers {
		checks(t, number(s), api.OK)
	}
	checks(t, list(null, text("a"), list(), list(number("1"))), api.OK)
	checks(t, object([]string{"", "a", "A", "é"}, null, null, list(), object(nil)), api.OK)
	checks(t, list(member("a", null), member("a", member("a", null))), api.OK)
	// A nil list and an empty one are the same.
	checks(t, api.Json{Kind: api.JsonNull, List: []api.Json{}, Keys: []string{}}, api.OK)
	for _, v := range samples() {
		checks(t, v, api.OK)
	}
}

func TestP21Kinds(t *testing.T) {
	for _, kind := range []int{-1, api.JsonKinds, api.JsonKinds + 1, math.MaxInt, math.MinInt} {
		checks(t, api.Json{Kind: kind}, api.ErrJsonForm)
		checks(t, list(null, api.Json{Kind: kind}), api.ErrJsonForm)
	}
}

func TestP21Numbers(t *testing.T) {
	for _, s := range append(badNumbers, " 1", "1 ", "1\n", "1,", "null", "\xff") {
		checks(t, number(s), api.ErrJsonForm)
		checks(t, member("a", number(s)), api.ErrJsonForm)
	}
}

func TestP21FieldsThatAKindDoesNotHave(t *testing.T) {
	own := []api.Json{null, {Kind: api.JsonFalse}, {Kind: api.JsonTrue}, number("1"), text("a"), list(null), object([]string{"a"}, null)}
	for kind, v := range own {
		if kind != api.JsonNumber && kind != api.JsonText {
			x := v
			x.Text = "1"
			checks(t, x, api.ErrJsonForm)
		}
		if kind != api.JsonList && kind != api.JsonObject {
			x := v
			x.List = []api.Json{null}
			checks(t, x, api.ErrJsonForm)
		}
		if kind != api.JsonObject {
			x := v
			x.Keys = []string{"a"}
			checks(t, x, api.ErrJsonForm)
			checks(t, list(x), api.ErrJsonForm)
		}
	}
}

func TestP21TextsAndKeys(t *testing.T) {
	for _, s := range []string{"\xff", "a\xc3", "\xc3a", "\xed\xa0\x80", "\xc0\x80", "\xf4\x90\x80\x80", "\x80"} {
		checks(t, text(s), api.ErrJsonForm)
		checks(t, member(s, null), api.ErrJsonForm)
		checks(t, object([]string{"a", s}, null, null), api.ErrJsonForm)
	}
	checks(t, object([]string{"a", "a"}, null, null), api.ErrJsonForm)
	checks(t, object([]string{"", "b", ""}, null, null, null), api.ErrJsonForm)
	checks(t, object([]string{"a", "b"}, null), api.ErrJsonForm)
	checks(t, object([]string{"a"}, null, null), api.ErrJsonForm)
	checks(t, object([]string{"a"}), api.ErrJsonForm)
	checks(t, object(nil, null), api.ErrJsonForm)
}

func TestP21Depth(t *testing.T) {
	for _, inner := range []api.Json{null, number("1"), text("a")} {
		checks(t, within(api.MaxDepth, inner), api.OK)
	}
	for _, inner := range []api.Json{list(), object(nil), list(null), member("a", null)} {
		checks(t, within(api.MaxDepth-1, inner), api.OK)
		checks(t, within(api.MaxDepth, inner), api.ErrJsonDeep)
		checks(t, within(api.MaxDepth+5, inner), api.ErrJsonDeep)
	}
	// What stands beside one another is not within one another.
	checks(t, list(within(api.MaxDepth-1, null), within(api.MaxDepth-1, null)), api.OK)
}

func TestP21TheFirstDecides(t *testing.T) {
	deep, wrong := within(api.MaxDepth, list()), number("x")
	checks(t, list(null, deep, wrong), api.ErrJsonDeep)
	checks(t, list(null, wrong, deep), api.ErrJsonForm)
	checks(t, object([]string{"b", "a"}, deep, wrong), api.ErrJsonDeep)
	checks(t, list(list(list(wrong)), deep), api.ErrJsonForm)
	// A value is ahead of its elements.
	checks(t, object([]string{"a", "a"}, deep, null), api.ErrJsonForm)
	checks(t, object([]string{"a"}, deep, null), api.ErrJsonForm)
	checks(t, api.Json{Kind: api.JsonList, Text: "a", List: []api.Json{deep}}, api.ErrJsonForm)
	checks(t, api.Json{Kind: api.JsonNull, List: []api.Json{deep}}, api.ErrJsonForm)
	checks(t, api.Json{Kind: api.JsonKinds, List: []api.Json{deep}}, api.ErrJsonForm)
	// Of one value's faults, that it is too deep is named first.
	checks(t, within(api.MaxDepth, api.Json{Kind: api.JsonList, Text: "a"}), api.ErrJsonDeep)
	checks(t, within(api.MaxDepth, object([]string{"a"})), api.ErrJsonDeep)
	checks(t, within(api.MaxDepth, list(wrong)), api.ErrJsonDeep)
	checks(t, within(api.MaxDepth, wrong), api.ErrJsonForm)
	checks(t, within(api.MaxDepth, api.Json{Kind: api.JsonNull, List: []api.Json{null}}), api.ErrJsonForm)
	checks(t, within(api.MaxDepth, api.Json{Kind: -1, List: []api.Json{null}}), api.ErrJsonForm)
}

// R1: a list may be its own element, as a caller's slices go.
func TestR1CheckEndsAtAListWithinItself(t *testing.T) {
	l := []api.Json{null, null}
	l[1] = list(l...)
	l[1].List = l
	checks(t, list(l...), api.ErrJsonDeep)
	keeps(t, list(l...), api.ErrJsonDeep)
}

func TestP23Member(t *testing.T) {
	v := object([]string{"b", "", "a", "é"}, number("1"), text("x"), list(null), object([]string{"b"}, number("2")))
	for i, key := range v.Keys {
		if x, ok := json.Member(v, key); !ok || !same(x, v.List[i]) {
			t.Errorf("%q: %+v, %t", key, x, ok)
		}
	}
	twice := object([]string{"a", "a"}, number("1"), number("2"))
	if x, ok := json.Member(twice, "a"); !ok || !same(x, number("1")) {
		t.Errorf("twice: %+v, %t", x, ok)
	}
	more := object([]string{"a", "b", "b"}, number("1"), text("x"))
	if x, ok := json.Member(more, "b"); !ok || !same(x, text("x")) {
		t.Errorf("more keys: %+v, %t", x, ok)
	}
}

func TestP23MemberOfNone(t *testing.T) {
	a := api.Json{Text: "a", List: []api.Json{number("1")}, Keys: []string{"a"}}
	for kind := -1; kind <= api.JsonKinds; kind++ {
		if a.Kind = kind; kind == api.JsonObject {
			continue
		}
		if x, ok := json.Member(a, "a"); ok || !isNone(x) {
			t.Errorf("kind %d: %+v, %t", kind, x, ok)
		}
	}
	v := object([]string{"a", "b", "c"}, number("1"), number("2"))
	for _, key := range []string{"", "A", "c", "ab", "a\x00", "\xff"} {
		if x, ok := json.Member(v, key); ok || !isNone(x) {
			t.Errorf("%q: %+v, %t", key, x, ok)
		}
	}
	if x, ok := json.Member(object(nil, number("1")), ""); ok || !isNone(x) {
		t.Errorf("no keys: %+v, %t", x, ok)
	}
}

func TestP23Int(t *testing.T) {
	for s, want := range map[string]int{"0": 0, "7": 7, "-7": -7, "10": 10, "-100": -100, "1": 1, "9": 9, "-1": -1, "999999999999999": 999999999999999, "-999999999999999": -999999999999999, "100000000000000": 100000000000000, "12345678901234": 12345678901234} {
		if n, ok := json.Int(number(s)); n != want || !ok {
			t.Errorf("%s: %d, %t", s, n, ok)
		}
	}
	none := append(badNumbers, "-0", "00", "-00", "01", "1e1", "1E1", "1.0", "0.0", "0e0", "1e0", " 1", "1 ", "1111111111111111", "-1111111111111111", "1000000000000000", "0000000000000001", "-000000000000001", strings.Repeat("9", 400), "12345678901234a", "-a")
	for _, s := range none {
		if n, ok := json.Int(number(s)); n != 0 || ok {
			t.Errorf("%q: %d, %t", s, n, ok)
		}
	}
	v := api.Json{Text: "7", List: []api.Json{number("7")}, Keys: []string{"7"}}
	for kind := -1; kind <= api.JsonKinds; kind++ {
		if v.Kind = kind; kind == api.JsonNumber {
			continue
		}
		if n, ok := json.Int(v); n != 0 || ok {
			t.Errorf("kind %d: %d, %t", kind, n, ok)
		}
	}
}

func TestP23Texts(t *testing.T) {
	for _, want := range [][]string{nil, {""}, {"a", "b"}, {"b", "a", "b", ""}, {"é", "\xff"}} {
		var l []api.Json
		for _, s := range want {
			l = append(l, text(s))
		}
		if x, ok := json.Texts(list(l...)); !ok || !slices.Equal(x, want) {
			t.Errorf("%q, %t; want %q", x, ok, want)
		}
		for _, other := range []api.Json{null, number("1"), list(), list(text("a")), {Kind: api.JsonKinds, Text: "a"}, {Kind: -1}} {
			for at := range len(l) + 1 {
				if x, ok := json.Texts(list(slices.Insert(slices.Clone(l), at, other)...)); len(x) > 0 || ok {
					t.Errorf("%+v at %d: %q, %t", other, at, x, ok)
				}
			}
		}
	}
	v := api.Json{Text: "a", List: []api.Json{text("a")}, Keys: []string{"a"}}
	for kind := -1; kind <= api.JsonKinds; kind++ {
		if v.Kind = kind; kind == api.JsonList {
			continue
		}
		if x, ok := json.Texts(v); len(x) > 0 || ok {
			t.Errorf("kind %d: %q, %t", kind, x, ok)
		}
	}
}

// R4: what is handed in stays as it is, and an answer is memory of its own.
func TestR4ListsAreTheCallers(t *testing.T) {
	make2 := func() api.Json {
		spare := []api.Json{text("a"), text("b"), text("room")}
		keys := []string{"k", "l", "room"}
		return object(keys[:2], list(spare[:2]...), null)
	}
	v := make2()
	json.Check(v)
	json.Print(v)
	json.Member(v, "k")
	inner := v.List[0]
	l, _ := json.Texts(inner)
	l[0] = "changed"
	_ = append(l[:1], "changed")
	if !same(v, make2()) || v.Keys[:3][2] != "room" || inner.List[:3][2].Text != "room" {
		t.Errorf("changed: %+v", v)
	}
	one, _ := json.Parse(`{"a":[1,2,3],"b":[]}`)
	two, _ := json.Parse(`{"a":[1,2,3],"b":[]}`)
	one.List[0].List[0].Text, one.Keys[0] = "9", "c"
	_ = append(one.List[0].List[:1], null)
	_ = append(one.List[1].List, null)
	prints(t, two, `{"a":[1,2,3],"b":[]}`)
	prints(t, one, `{"c":[9,null,3],"b":[]}`)
}

// R5: nothing is kept from call to call, a refused one least of all.
func TestR5NothingIsKept(t *testing.T) {
	for range 2 {
		refuses(t, `{"a":1,"a":2}`, api.ErrJsonText)
		parses(t, `{"a":1}`, member("a", number("1")))
		refuses(t, strings.Repeat("[", 99), api.ErrJsonDeep)
		parses(t, "[]", list())
		keeps(t, text(strings.Repeat("a", api.MaxJson)), api.ErrJsonLong)
		prints(t, text("a"), `"a"`)
		checks(t, number("x"), api.ErrJsonForm)
		checks(t, number("1"), api.OK)
	}
}
