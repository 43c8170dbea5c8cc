package json_test

import (
	"math/rand"
	"slices"
	"strings"
	"testing"

	"seneschal/api"
	"seneschal/json"
)

var null = api.Json{Kind: api.JsonNull}

func number(s string) api.Json { return api.Json{Kind: api.JsonNumber, Text: s} }

func text(s string) api.Json { return api.Json{Kind: api.JsonText, Text: s} }

func list(l ...api.Json) api.Json { return api.Json{Kind: api.JsonList, List: l} }

func object(keys []string, l ...api.Json) api.Json {
	return api.Json{Kind: api.JsonObject, Keys: keys, List: l}
}

func member(key string, v api.Json) api.Json { return object([]string{key}, v) }

// within: v in n lists and objects, by turns.
func within(n int, v api.Json) api.Json {
	for i := range n {
		if i%2 == 0 {
			v = list(v)
		} else {
			v = member("k", v)
		}
	}
	return v
}

// same: are they one value? A nil list and an empty one are the same.
func same(a, b api.Json) bool {
	return a.Kind == b.Kind && a.Text == b.Text && slices.Equal(a.Keys, b.Keys) && slices.EqualFunc(a.List, b.List, same)
}

// isNone: has a value that stands beside an error nothing in it?
func isNone(v api.Json) bool {
	return v.Kind == 0 && v.Text == "" && len(v.List) == 0 && len(v.Keys) == 0
}

// checks: Check answers want of v.
func checks(t *testing.T, v api.Json, want api.Errno) {
	t.Helper()
	if e := json.Check(v); e != want {
		t.Errorf("%+v: %d; want %d", v, e, want)
	}
}

// parses: Parse makes want of s.
func parses(t *testing.T, s string, want api.Json) {
	t.Helper()
	if v, e := json.Parse(s); e != api.OK || !same(v, want) {
		t.Errorf("%.80q: %+v, %d; want %+v", s, v, e, want)
	}
}

// refuses: Parse answers nothing for s but the error want.
func refuses(t *testing.T, s string, want api.Errno) {
	t.Helper()
	if v, e := json.Parse(s); e != want || !isNone(v) {
		t.Errorf("%.80q: %+v, %d; want error %d", s, v, e, want)
	}
}

// prints: the form of v is want.
func prints(t *testing.T, v api.Json, want string) {
	t.Helper()
	if s, e := json.Print(v); s != want || e != api.OK {
		t.Errorf("%+v: %.80q, %d; want %.80q", v, s, e, want)
	}
}

// keeps: Print answers nothing for v but the error want.
func keeps(t *testing.T, v api.Json, want api.Errno) {
	t.Helper()
	if s, e := json.Print(v); s != "" || e != want {
		t.Errorf("%.80q, %d; want error %d", s, e, want)
	}
}

var goodNumbers = []string{"0", "-0", "7", "10", "-19", "1234567890123456789", "0.0", "-0.5e+3", "1e1", "1E1", "1e-09", "1E+00", "0e0", "12.340", "9.9E9"}

var badNumbers = []string{"", "-", "+1", "01", "-01", "00", "1.", ".5", "-.5", "1.e1", "1e", "1e+", "1e-", "1E", "e1", "1.5.5", "1e1e1", "1e1.5", "0x1", "1_0", "--1", "-+1", "1e+-1", "1e--1", "1a", "٣", "1\x00", "NaN", "Infinity", "-Infinity", "1/", "1:", "/1", ":1"}

// anyText: one that comes by chance, the same one for the same r.
func anyText(r *rand.Rand) string {
	runes := []rune{'a', 'k', '"', '\\', '/', 0, 8, 9, 10, 11, 12, 13, 31, 32, 127, 128, 0xE9, 0x7FF, 0x800, 0xD7FF, 0xE000, 0xFFFD, 0xFFFF, 0x10000, 0x1F600, 0x10FFFF}
	var b strings.Builder
	for range r.Intn(6) {
		b.WriteRune(runes[r.Intn(len(runes))])
	}
	return b.String()
}

// anyValue: one that may be and is at most deep, the same one for the same r.
func anyValue(r *rand.Rand, deep int) api.Json {
	kind := r.Intn(api.JsonKinds)
	if deep == 0 {
		kind = r.Intn(api.JsonList)
	}
	v := api.Json{Kind: kind}
	switch kind {
	case api.JsonNumber:
		v.Text = goodNumbers[r.Intn(len(goodNumbers))]
	case api.JsonText:
		v.Text = anyText(r)
	case api.JsonList, api.JsonObject:
		for range r.Intn(4) {
			if k := anyText(r); kind == api.JsonObject && !slices.Contains(v.Keys, k) {
				v.Keys = append(v.Keys, k)
			} else if kind == api.JsonObject {
				continue
			}
			v.List = append(v.List, anyValue(r, deep-1))
		}
	}
	return v
}

// samples: values that may be, always the same ones.
func samples() []api.Json {
	r := rand.New(rand.NewSource(2))
	var l []api.Json
	for range 500 {
		l = append(l, anyValue(r, 5))
	}
	return append(l, within(api.MaxDepth, null), within(api.MaxDepth-1, list()))
}
