package json_test

import (
	stdjson "encoding/json"
	"fmt"
	"math/rand"
	"strings"
	"testing"
	"unicode/utf8"

	"seneschal/api"
	"seneschal/json"
)

func TestP22PrintOfEachKind(t *testing.T) {
	for want, v := range map[string]api.Json{
		"null": null, "false": {Kind: api.JsonFalse}, "true": {Kind: api.JsonTrue},
		`""`: text(""), `"a é/` + "\U0001F600\x7f\u2028<>&'\"": text("a é/\U0001F600\x7f\u2028<>&'"),
		"[]": list(), "{}": object(nil), "[[],{}]": list(list(), object(nil)),
		`[1,"a",null]`:               list(number("1"), text("a"), null),
		`{"b":[1],"":{},"a\"":true}`: object([]string{"b", "", `a"`}, list(number("1")), object(nil), api.Json{Kind: api.JsonTrue}),
	} {
		prints(t, v, want)
	}
	for _, s := range goodNumbers {
		prints(t, number(s), s)
	}
}

func TestP22PrintOfEachByte(t *testing.T) {
	named := map[int]string{'"': `\"`, '\\': `\\`, 8: `\b`, 9: `\t`, 10: `\n`, 12: `\f`, 13: `\r`}
	for c := range 128 {
		want := named[c]
		if want == "" && c < 32 {
			want = fmt.Sprintf(`\u%04x`, c)
		} else if want == "" {
			want = string(rune(c))
		}
		s := "a" + string(rune(c)) + "é"
		prints(t, text(s), `"a`+want+`é"`)
		prints(t, member(s, null), `{"a`+want+`é":null}`)
	}
}

func TestP22PrintRefuses(t *testing.T) {
	keeps(t, number("01"), api.ErrJsonForm)
	keeps(t, text("\xff"), api.ErrJsonForm)
	keeps(t, list(null, api.Json{Kind: api.JsonKinds}), api.ErrJsonForm)
	keeps(t, object([]string{"a", "a"}, null, null), api.ErrJsonForm)
	keeps(t, within(api.MaxDepth, list()), api.ErrJsonDeep)
	// Check's error is named ahead of the length.
	long := text(strings.Repeat("a", api.MaxJson))
	keeps(t, list(long, number("")), api.ErrJsonForm)
	keeps(t, list(long, within(api.MaxDepth, null)), api.ErrJsonDeep)
	keeps(t, text(strings.Repeat("a", api.MaxJson)+"\xff"), api.ErrJsonForm)
}

func TestP22PrintOfLongForms(t *testing.T) {
	a := strings.Repeat("a", api.MaxJson-2)
	prints(t, text(a), `"`+a+`"`)
	keeps(t, text(a+"a"), api.ErrJsonLong)
	keeps(t, text(a[1:]+"\n"), api.ErrJsonLong)
	prints(t, text(a[2:]+"\n"), `"`+a[2:]+`\n"`)
	n := strings.Repeat("1", api.MaxJson)
	prints(t, number(n), n)
	keeps(t, number(n+"1"), api.ErrJsonLong)
	prints(t, list(number(n[2:])), "["+n[2:]+"]")
	keeps(t, list(number(n[1:])), api.ErrJsonLong)
	prints(t, member(a[4:], number("1")), `{"`+a[4:]+`":1}`)
	keeps(t, member(a[3:], number("1")), api.ErrJsonLong)
	control := strings.Repeat("\x01", (api.MaxJson-2)/6)
	prints(t, text(control), `"`+strings.Repeat(`\u0001`, len(control))+`"`)
	keeps(t, text(control+"\x01"), api.ErrJsonLong)
	// A list of n nulls has 5 n + 1 bytes.
	nulls := make([]api.Json, (api.MaxJson-1)/5)
	if s, e := json.Print(list(nulls...)); len(s) != 5*len(nulls)+1 || e != api.OK {
		t.Errorf("nulls: %d bytes, %d", len(s), e)
	}
	keeps(t, list(append(nulls, null)...), api.ErrJsonLong)
	keeps(t, text(strings.Repeat("a", 1<<22)), api.ErrJsonLong)
}

func TestP22ParseOfExamples(t *testing.T) {
	parses(t, ` { "a" : [ 1 , -0.5e+3 , "\u00e9\/" ] , "" : null } `, object([]string{"a", ""}, list(number("1"), number("-0.5e+3"), text("é/")), null))
	parses(t, "null", null)
	parses(t, "false", api.Json{Kind: api.JsonFalse})
	parses(t, "true", api.Json{Kind: api.JsonTrue})
	parses(t, "[]", list())
	parses(t, "{}", object(nil))
	parses(t, `""`, text(""))
	parses(t, `["",{},[],true]`, list(text(""), object(nil), list(), api.Json{Kind: api.JsonTrue}))
	parses(t, `{"a":{"a":{"a":1}},"b":{"a":2}}`, object([]string{"a", "b"}, member("a", member("a", number("1"))), member("a", number("2"))))
	for _, s := range goodNumbers {
		parses(t, s, number(s))
		parses(t, "["+s+",\n"+s+" ]", list(number(s), number(s)))
	}
}

func TestP22ParseRefuses(t *testing.T) {
	for _, s := range []string{
		"", " ", "nul", "nulll", "Null", "NULL", "nullnull", "tru", "truE", "fals", "falsee", "n", "t", "f", "undefined", "a", "'a'", "null x", "1 2", "1,", ",1", ":", ",", "[1]]", "{}}", "[]{}", "\xef\xbb\xbf1", "1//", "/**/1",
		"[", "[1", "[1,", "[1,]", "[,]", "[,1]", "[1,,2]", "[1 2]", "[1:2]", "[1}", "]", "[}", "[\"a\":1]", "[true false]", "[1\x00]",
		"{", "{]", "}", `{"a"`, `{"a"}`, `{"a":`, `{"a":}`, `{"a":1`, `{"a":1,`, `{"a":1,}`, `{,}`, `{,"a":1}`, `{"a",1}`, `{"a":1]`, `{"a" 1}`, `{"a"::1}`, `{"a":1 "b":2}`, `{"a":1;"b":2}`, `{a:1}`, `{1:1}`, `{null:1}`, `{[]:1}`, `{{}:1}`, `{"a":1:2}`, `{"a":1,,"b":2}`,
		`"`, `"a`, `a"`, `"a"b`, `"a""b"`, `"\"`, `"a\`, "\"\xff\"", "\"\xc3\"", "\"\xed\xa0\x80\"", "\"\xc0\xaf\"", "\"\xe9\"", "{\"\xff\":1}",
	} {
		refuses(t, s, api.ErrJsonText)
	}
	for _, s := range badNumbers {
		refuses(t, s, api.ErrJsonText)
		refuses(t, "["+s+"x]", api.ErrJsonText)
		refuses(t, `{"a":`+s+`}`, api.ErrJsonText)
	}
}

func TestP22ParseOfBlanks(t *testing.T) {
	parts := []string{"{", `"a"`, ":", "[", "1", ",", "null", ",", `"b c"`, "]", ",", `"d"`, ":", "{", "}", "}"}
	want, e := json.Parse(strings.Join(parts, ""))
	if e != api.OK {
		t.Fatal(e)
	}
	parses(t, " \t\n\r"+strings.Join(parts, "\r\n\t ")+"  \n", want)
	for at := range len(parts) + 1 {
		head, tail := strings.Join(parts[:at], ""), strings.Join(parts[at:], "")
		for c := range 256 {
			s := head + string([]byte{byte(c)}) + tail
			switch {
			case c == 9 || c == 10 || c == 13 || c == 32:
				parses(t, s, want)
			case c != '-' && (c < '0' || c > '9'): // these may stand at a number
				refuses(t, s, api.ErrJsonText)
			}
		}
	}
	for _, s := range []string{"n ull", "- 1", "1 .5", "1. 5", "1 e1", "1e 1", "1e+ 1", `"\ u0041"`, `"\u 0041"`} {
		refuses(t, s, api.ErrJsonText)
	}
}

func TestP22ParseOfEachByteInATextAndBehindABackslash(t *testing.T) {
	named := map[int]string{'"': `"`, '\\': `\`, '/': "/", 'b': "\b", 't': "\t", 'n': "\n", 'f': "\f", 'r': "\r"}
	for c := range 256 {
		s := string([]byte{byte(c)})
		switch {
		case c < 32 || c == '"' || c == '\\' || c >= 128:
			refuses(t, `"a`+s+`x"`, api.ErrJsonText)
		default:
			parses(t, `"a`+s+`x"`, text("a"+s+"x"))
		}
		if meant := named[c]; meant != "" {
			parses(t, `"\`+s+`b"`, text(meant+"b"))
			parses(t, `{"\`+s+`b":1}`, member(meant+"b", number("1")))
		} else {
			refuses(t, `"\`+s+`b"`, api.ErrJsonText)
		}
		isDigit := strings.Contains("0123456789abcdefABCDEF", s)
		for at := range 4 {
			four := "0041"[:at] + s + "0041"[at+1:]
			if _, e := json.Parse(`"\u` + four + `"`); (e == api.OK) != isDigit {
				t.Errorf("%q: %d", four, e)
			}
		}
	}
}

func TestP22ParseOfRunesByNumber(t *testing.T) {
	for n := range 0x10000 {
		for _, form := range []string{`"\u%04x"`, `"\u%04X"`} {
			s := fmt.Sprintf(form, n)
			if 0xD800 <= n && n <= 0xDFFF {
				refuses(t, s, api.ErrJsonText)
			} else {
				parses(t, s, text(string(rune(n))))
			}
		}
	}
	parses(t, `"\u00e9\u00E9\u0000a\u00410"`, text("éé\x00aA0"))
	for _, s := range []string{`"\u"`, `"\u0"`, `"\u00"`, `"\u004"`, `"\u`, `"\u0041`, `"\U0041"`, `"\u004g"`, `"\u+041"`, `"\u-041"`, `"\u0x41"`, `"\u{41}"`, `"\x41"`, `"\101"`} {
		refuses(t, s, api.ErrJsonText)
	}
}

func TestP22ParseOfPairs(t *testing.T) {
	for s, want := range map[string]rune{`\ud83d\ude00`: 0x1F600, `\uD83D\uDE00`: 0x1F600, `\uD83d\udE00`: 0x1F600, `\ud800\udc00`: 0x10000, `\ud800\udfff`: 0x103FF, `\ud801\udc00`: 0x10400, `\udbff\udc00`: 0x10FC00, `\udbff\udfff`: 0x10FFFF} {
		parses(t, `"`+s+`"`, text(string(want)))
		parses(t, `"a`+s+`b`+s+s+`"`, text("a"+string(want)+"b"+string(want)+string(want)))
		parses(t, `{"`+s+`":1}`, member(string(want), number("1")))
	}
	for _, s := range []string{`\ud83d`, `\udc00\ud800`, `\ude00`, `\ud83d\ud83d`, `\ud83d\ud83d\ude00`, `\ude00\ude00`, `\udc00\udc00`, `\udc00\udfff`, `\udfff\udc00`, `\ud83d\u0041`, `\ud83d\udbff`, `\ud83d\ue000`, `\ud83d\ud7ff`, `\ud83da`, `\ud83da\ude00`, `\ud83d \ude00`, `\ud83d\n`, `\ud83d\nde00`, `\ud83d\`, `\ud83d\u`, `\ud83d\ude0`, `\ud83d\ude0g`, `\ud83dude00`, `\ud83d/ude00`, "\\ud83d\xed\xb8\x80", "\xed\xa0\xbd\\ude00", `\ud83d\ude00\ud83d`, `\ud83d\Ude00`} {
		refuses(t, `"`+s+`"`, api.ErrJsonText)
		refuses(t, `{"`+s+`":1}`, api.ErrJsonText)
	}
}

func TestP22ParseOfKeysThatComeTwice(t *testing.T) {
	for _, s := range []string{`{"a":1,"a":2}`, `{"a":1,"a":1}`, `{"":1,"":2}`, `{"a":1,"b":2,"a":3}`, `{"a":1,"b":2,"b":3}`, `{"a":1,"\u0061":2}`, `{"\/":1,"/":2}`, `{"\ud83d\ude00":1,"` + "\U0001F600" + `":2}`, `[{"a":{"a":1,"a":2}}]`} {
		refuses(t, s, api.ErrJsonText)
	}
	parses(t, `{"a":1,"A":2,"a ":3}`, object([]string{"a", "A", "a "}, number("1"), number("2"), number("3")))
	parses(t, `[{"a":1},{"a":1}]`, list(member("a", number("1")), member("a", number("1"))))
}

func TestP22ParseOfLongTexts(t *testing.T) {
	a := strings.Repeat("a", api.MaxJson-2)
	parses(t, `"`+a+`"`, text(a))
	refuses(t, `"`+a+`a"`, api.ErrJsonLong)
	parses(t, strings.Repeat(" ", api.MaxJson-1)+"1", number("1"))
	parses(t, "1"+strings.Repeat(" ", api.MaxJson-1), number("1"))
	refuses(t, "1"+strings.Repeat(" ", api.MaxJson), api.ErrJsonLong)
	// The length is named ahead of all else.
	refuses(t, strings.Repeat("[", api.MaxJson+1), api.ErrJsonLong)
	refuses(t, strings.Repeat("x", api.MaxJson+1), api.ErrJsonLong)
	refuses(t, strings.Repeat("[", api.MaxJson), api.ErrJsonDeep)
	refuses(t, strings.Repeat("x", api.MaxJson), api.ErrJsonText)
}

func TestP22ParseOfDeepTexts(t *testing.T) {
	open, closed := strings.Repeat("[", api.MaxDepth), strings.Repeat("]", api.MaxDepth)
	members := strings.Repeat(`{"a":`, api.MaxDepth)
	for s, want := range map[string]api.Errno{
		open + closed:             api.OK,
		open + "1" + closed:       api.OK,
		"[" + open + closed + "]": api.ErrJsonDeep,
		open + "{}" + closed:      api.ErrJsonDeep,
		open + "1,[]" + closed:    api.ErrJsonDeep,
		members + "1" + strings.Repeat("}", api.MaxDepth):               api.OK,
		members + "[]" + strings.Repeat("}", api.MaxDepth):              api.ErrJsonDeep,
		members + "{}" + strings.Repeat("}", api.MaxDepth):              api.ErrJsonDeep,
		"[" + open[1:] + closed[1:] + "," + open[1:] + closed[1:] + "]": api.OK,
	} {
		v, e := json.Parse(s)
		if e != want || e != api.OK && !isNone(v) {
			t.Errorf("%q: %+v, %d; want %d", s, v, e, want)
		}
	}
}

func TestP22ParseTheFirstPlaceDecides(t *testing.T) {
	open := strings.Repeat("[", api.MaxDepth)
	for s, want := range map[string]api.Errno{
		// What is wrong behind the bracket that is too deep comes later.
		open + "[":                       api.ErrJsonDeep,
		open + "[x":                      api.ErrJsonDeep,
		open + " \n{":                    api.ErrJsonDeep,
		open + "{]":                      api.ErrJsonDeep,
		open + `"a",[`:                   api.ErrJsonDeep,
		`{"a":` + open + `,"a":1}`:       api.ErrJsonDeep,
		`{"a":1,"b":` + open + `,"a":1}`: api.ErrJsonDeep,
		"[" + open + "\"\xff\"":          api.ErrJsonDeep,
		// What is wrong ahead of it comes first.
		open + "x[":                      api.ErrJsonText,
		open + "01,[":                    api.ErrJsonText,
		"[1 " + open + "[":               api.ErrJsonText,
		"\"\xff\"" + open + "[":          api.ErrJsonText,
		"[\"\xff\"," + open + "[":        api.ErrJsonText,
		`["\ud83d",` + open + "[":        api.ErrJsonText,
		`{"a":1,"a":` + open + "[":       api.ErrJsonText,
		`{"a":1,"a"` + open + "[":        api.ErrJsonText,
		`{"a":[{"b":1,"b":` + open + "[": api.ErrJsonText,
		`["` + open + "[":                api.ErrJsonText,
		open[1:] + "],\"" + "[[":         api.ErrJsonText,
		// A bracket that can't stand there is that, however deep.
		open + "1[": api.ErrJsonText,
		open + "][": api.ErrJsonText,
		strings.Repeat(`{"a":`, api.MaxDepth-1) + "{[":       api.ErrJsonText,
		strings.Repeat(`{"a":`, api.MaxDepth-1) + "{{":       api.ErrJsonText,
		strings.Repeat(`{"a":`, api.MaxDepth-1) + `{"b"[`:    api.ErrJsonText,
		strings.Repeat(`{"a":`, api.MaxDepth-1) + `{"b":1,[`: api.ErrJsonText,
		open + "]":      api.ErrJsonText,
		open:            api.ErrJsonText,
		open + "}":      api.ErrJsonText,
		open + "null[]": api.ErrJsonText,
	} {
		refuses(t, s, want)
	}
}

func TestP24WhatIsPrintedIsReadAgain(t *testing.T) {
	for _, v := range samples() {
		s, e := json.Print(v)
		if e != api.OK {
			t.Fatal(e)
		}
		parses(t, s, v)
		if strings.ContainsFunc(s, func(r rune) bool { return r < 32 }) || !stdjson.Valid([]byte(s)) {
			t.Errorf("%q", s)
		}
	}
}

func TestP24WhatIsReadIsPrintedOnce(t *testing.T) {
	for s, want := range map[string]string{
		" [ 1 ,\t2 ] ": "[1,2]", `{ "b" : 1 , "a" : { } }`: `{"b":1,"a":{}}`, `"\u0041\/\u000a\u0001\u001F"`: `"A/\n\u0001\u001f"`, `"\ud83d\ude00"`: "\"\U0001F600\"", `"\u007f"`: "\"\x7f\"", "-0.5e+3": "-0.5e+3", `"\u0022\u005c"`: `"\"\\"`, `"\u0000"`: `"\u0000"`,
	} {
		v, e := json.Parse(s)
		if e != api.OK {
			t.Errorf("%q: %d", s, e)
		}
		prints(t, v, want)
		parses(t, want, v)
	}
}

// keysTwice: has s an object with a key that comes twice? (s is JSON.)
func keysTwice(d *stdjson.Decoder) bool {
	var open []map[string]int
	isKey := false
	for {
		x, err := d.Token()
		if err != nil {
			return false
		}
		if s, ok := x.(string); ok && isKey {
			if open[len(open)-1][s]++; open[len(open)-1][s] > 1 {
				return true
			}
			isKey = false
			continue
		}
		switch x {
		case stdjson.Delim('{'):
			open = append(open, map[string]int{})
		case stdjson.Delim('['):
			open = append(open, nil)
		case stdjson.Delim('}'), stdjson.Delim(']'):
			open = open[:len(open)-1]
		}
		isKey = len(open) > 0 && open[len(open)-1] != nil
	}
}

// agrees: does Parse answer what another reader of JSON says of s, with this one's own limits?
func agrees(t *testing.T, s string) {
	t.Helper()
	v, e := json.Parse(s)
	if e != api.OK {
		if !isNone(v) {
			t.Errorf("%q: %+v beside %d", s, v, e)
		}
		alone := strings.Contains(strings.ToLower(s), `\ud`)
		if e == api.ErrJsonText && stdjson.Valid([]byte(s)) && utf8.ValidString(s) && !alone && !keysTwice(stdjson.NewDecoder(strings.NewReader(s))) {
			t.Errorf("%q is JSON", s)
		}
		return
	}
	if !stdjson.Valid([]byte(s)) || !utf8.ValidString(s) {
		t.Errorf("%q is no JSON", s)
	}
	checks(t, v, api.OK)
	form, e := json.Print(v)
	if e != api.OK || len(form) > len(s) || strings.ContainsFunc(form, func(r rune) bool { return r < 32 }) {
		t.Errorf("%q: %q, %d", s, form, e)
	}
	parses(t, form, v)
}

func TestP22ParseOfTextsThatComeByChance(t *testing.T) {
	r := rand.New(rand.NewSource(3))
	pieces := []string{"{", "}", "[", "]", ",", ":", `"`, `"a"`, `"b":`, "1", "0", "-", ".", "e", "null", "true", "false", " ", "\n", `\`, `\u0061`, `\ud83d\ude00`, "\xff", "é", "\x01"}
	for range 200000 {
		var b strings.Builder
		for range r.Intn(8) {
			b.WriteString(pieces[r.Intn(len(pieces))])
		}
		agrees(t, b.String())
	}
	for _, v := range samples() {
		s, _ := json.Print(v)
		for at := range len(s) {
			agrees(t, s[:at])
			agrees(t, s[:at]+s[at+1:])
			agrees(t, s[:at]+pieces[r.Intn(len(pieces))]+s[at:])
		}
	}
}

// R1: each call ends at any text, and none panics.
func FuzzR1EndsAtAnyText(f *testing.F) {
	f.Add(` { "a" : [ 1 , -0.5e+3 , "\u00e9\/" ] , "" : null } `)
	f.Add(`"\ud83d\ude00"`)
	f.Add(strings.Repeat("[", 17))
	f.Fuzz(agrees)
}
