package token_test

import (
	"fmt"
	"math"
	"math/rand"
	"slices"
	"strings"
	"testing"

	"seneschal/api"
	"seneschal/sign"
	"seneschal/token"
)

func TestExamples(t *testing.T) {
	r, c, k := sign.NewRing("a"), example(), access()
	text := k.issues(t, r, c)
	body := `{"iss":"i","sub":"u:ann","aud":"api","client_id":"web","jti":"7","iat":1,"exp":61,"scope":"mail read","level":0,"act":{"sub":"c:job"}}`
	same(t, "the body", strings.Split(text, ".")[1], base(body))
	k.is(t, r, text, c)
	if e := r.Turn("b"); e != api.OK {
		t.Error(e)
	}
	k.is(t, r, text, c)
	seal := strings.LastIndexByte(text, '.') + 1
	k.refuses(t, r, text[:seal]+strings.Map(func(c rune) rune { return 'A' }, text[seal:]), api.ErrTokenSign)
	k.refuses(t, r, text+"=", api.ErrTokenText)
	k.refuses(t, r, id().issues(t, r, c), api.ErrTokenText)
	k.refuses(t, r, "", api.ErrTokenText)
	for _, scope := range [][]string{{"b", "a"}, {"a b"}} {
		same(t, "Check", token.Check(api.Claims{Scope: scope}), api.ErrTokenForm)
	}
	same(t, "Check", token.Check(api.Claims{Exp: -1}), api.ErrTokenForm)
	same(t, "Check", token.Check(api.Claims{Act: []string{"a", "b", "c", "d", "e"}}), api.ErrTokenForm)
}

// may: Check tells whether claims may be, and so do Access and Id.
func may(t *testing.T, r *sign.Ring, c api.Claims, want bool) {
	t.Helper()
	what := as(c)
	if mayBe(c) != want {
		t.Fatalf("%.600s: the test itself says otherwise", what)
	}
	if want {
		same(t, what, token.Check(c), api.OK)
		access().is(t, r, access().issues(t, r, c), c)
		return
	}
	same(t, what, token.Check(c), api.ErrTokenForm)
	for _, k := range kinds() {
		text, e := k.issue(r, c)
		same(t, what, []any{text, e}, []any{"", api.ErrTokenForm})
		// What it would be laid as is mostly no body; without an empty word, and with a word cut at its blank, it may be that of others.
		k.agrees(t, r, k.sealed("a", k.headOf(kidOf("a")), bodyOf(c)))
	}
}

func TestP141Texts(t *testing.T) {
	r := sign.NewRing("a")
	places := []func(*api.Claims) *string{
		func(c *api.Claims) *string { return &c.Iss },
		func(c *api.Claims) *string { return &c.Sub },
		func(c *api.Claims) *string { return &c.Aud },
		func(c *api.Claims) *string { return &c.Client },
		func(c *api.Claims) *string { return &c.Jti },
		func(c *api.Claims) *string { return &c.Nonce },
		func(c *api.Claims) *string { c.Act = []string{"c:a", "c:b", "c:c"}; return &c.Act[1] },
		func(c *api.Claims) *string { c.Act = []string{"c:a", "c:b", "c:c", "c:d"}; return &c.Act[3] },
	}
	for i, place := range places {
		for s, want := range map[string]bool{
			"": i < 6, "x": true, "\x00": true, "é": true, "\U0001F600": true, `"\`: true, "\u2028\ufffd": true,
			strings.Repeat("x", 128): true, strings.Repeat("x", 129): false, strings.Repeat("é", 64): true, strings.Repeat("é", 65): false, strings.Repeat("x", 1<<14): false,
			"\xff": false, "a\xc3": false, "\xed\xa0\x80": false, "\xc0\xaf": false, "\xf4\x90\x80\x80": false,
		} {
			c := example()
			*place(&c) = s
			may(t, r, c, want)
		}
	}
}

func TestP141Numbers(t *testing.T) {
	r := sign.NewRing("a")
	for n, want := range map[int]bool{math.MinInt: false, -1: false, 0: true, 1: true, 9: true, 10: true, api.MaxTick - 1: true, api.MaxTick: true, api.MaxTick + 1: false, 1e15: false, math.MaxInt: false} {
		may(t, r, api.Claims{Iat: n}, want)
		may(t, r, api.Claims{Exp: n}, want)
		may(t, r, api.Claims{Level: n}, want && n < 10)
		may(t, r, api.Claims{Iat: n, Exp: 1, Level: 3}, want)
	}
	for n := range 12 {
		may(t, r, api.Claims{Level: n}, n < 10)
	}
}

func TestP141Words(t *testing.T) {
	r := sign.NewRing("a")
	for b := range 256 {
		want := b == 33 || 35 <= b && b <= 91 || 93 <= b && b <= 126
		may(t, r, api.Claims{Scope: []string{string([]byte{byte(b)})}}, want)
		may(t, r, api.Claims{Scope: []string{"a" + string([]byte{byte(b)}) + "a"}}, want)
	}
	long := strings.Repeat("x", api.MaxScope)
	for _, c := range []struct {
		words []string
		want  bool
	}{
		{nil, true}, {[]string{}, true}, {[]string{""}, false}, {[]string{"", "a"}, false}, {[]string{"a", ""}, false},
		{[]string{long}, true}, {[]string{long + "x"}, false}, {[]string{"a", long + "x"}, false}, {[]string{strings.Repeat("x", 1<<20)}, false},
		{[]string{"a", "b"}, true}, {[]string{"b", "a"}, false}, {[]string{"a", "a"}, false}, {[]string{"a", "aa", "b"}, true}, {[]string{"aa", "a"}, false},
		{[]string{"a", "c", "b"}, false}, {[]string{"a", "b", "b"}, false}, {[]string{"B", "a"}, true}, {[]string{"a", "B"}, false}, {[]string{"!", "~"}, true},
		{[]string{"é"}, false}, {[]string{"a", "a b"}, false}, {[]string{"a "}, false}, {[]string{" a"}, false}, {[]string{"a\n"}, false},
	} {
		may(t, r, api.Claims{Scope: c.words}, c.want)
	}
	var many []string
	for i := range 40 {
		many = append(many, fmt.Sprintf("%02d", i))
	}
	may(t, r, api.Claims{Scope: many[:15]}, true)
	may(t, r, api.Claims{Scope: many[:16]}, true)
	may(t, r, api.Claims{Scope: many[:17]}, false)
	may(t, r, api.Claims{Scope: many}, false)
}

func TestP141Actors(t *testing.T) {
	r := sign.NewRing("a")
	for n := range 7 {
		// Actors are in no order, and may be the same.
		may(t, r, api.Claims{Act: []string{"c:z", "c:a", "c:z", "u:é", "c:e", "c:f"}[:n%7]}, n < 5)
	}
	may(t, r, api.Claims{Act: []string{""}}, false)
	may(t, r, api.Claims{Act: []string{"a", "b", "c", ""}}, false)
	may(t, r, full(), true)
}

func TestP141IssuesTheText(t *testing.T) {
	by := rand.New(rand.NewSource(141))
	seeds := []string{"a", "", "\xff", "another"}
	for n := range seeds {
		r := ringOf(t, seeds[:n+1]...)
		for _, k := range kinds() {
			for i := range 40 {
				c := someClaims(by)
				if i == 0 {
					c = full()
				}
				// By the newest key.
				same(t, k.typ, k.issues(t, r, c), k.of(seeds[n], c))
				same(t, "the seeds", r.Seeds(), seeds[:n+1])
			}
		}
	}
}

func TestP142ReadsWhatWasIssued(t *testing.T) {
	by := rand.New(rand.NewSource(142))
	r := ringOf(t, "a", "b")
	for _, k := range kinds() {
		for range 100 {
			c := someClaims(by)
			k.is(t, r, k.issues(t, r, c), c)
		}
		k.is(t, r, k.issues(t, r, full()), full())
		k.is(t, r, k.issues(t, r, api.Claims{}), api.Claims{})
	}
}

// parts of the example's token of a kind.
func (k kind) parts() (head, body, seal string) {
	l := strings.Split(k.of("a", example()), ".")
	return l[0], l[1], l[2]
}

func TestP142Parts(t *testing.T) {
	r := sign.NewRing("a")
	for _, k := range kinds() {
		head, body, seal := k.parts()
		k.is(t, r, head+"."+body+"."+seal, example())
		for _, s := range []string{
			"", ".", "..", "...", head, head + ".", head + "." + body, "." + body + "." + seal, head + ".." + seal, head + "." + seal, body + "." + head + "." + seal,
			head + "." + body + "." + seal + ".", head + "." + body + "." + seal + "." + seal, "." + head + "." + body + "." + seal, head + "." + body + ".." + seal, head + "..." + seal,
			head + "=." + body + "." + seal, head + "." + body + "=." + seal, head + "." + body + "." + seal + "=", head + "==." + body + "." + seal,
			" " + head + "." + body + "." + seal, head + "." + body + "." + seal + " ", head + "." + body + "." + seal + "\n", head + "\n." + body + "." + seal, head + "." + body + "\r." + seal,
			head + "." + body + ".+" + seal[1:], head + "." + body + "./" + seal[1:], head + "." + body + ".\x00" + seal, head + "." + body + "." + seal[:len(seal)-1] + "é",
			head + "." + body + "." + seal[:21], head + "." + body + ".A", head + "." + body + ".AB", head + "," + body + "." + seal, head + "." + body + "," + seal,
			strings.Repeat(".", 1<<16), strings.Repeat("A", 1<<16), strings.Repeat("A", 1<<16) + ".A.A",
		} {
			same(t, s, k.agrees(t, r, s), api.ErrTokenText)
		}
		whole, _ := fromBase(seal)
		for _, s := range []string{"", "AA", base(whole[:len(whole)-1]), base(whole[1:]), seal + "AAAA", "AAAA" + seal, strings.Repeat("A", len(seal)), base("seal"), base(strings.Repeat("\x00", 64)), strings.Repeat("A", 1<<16)} {
			same(t, s, k.agrees(t, r, head+"."+body+"."+s), api.ErrTokenSign)
		}
	}
}

func TestP142EachByteOtherwise(t *testing.T) {
	r := ringOf(t, "a", "b")
	for _, k := range kinds() {
		text := k.of("a", example())
		for i := range text {
			for _, c := range []byte{text[i] ^ 1, '.', '=', 'A', 0} {
				s := text[:i] + string([]byte{c}) + text[i+1:]
				if e := k.agrees(t, r, s); (e == api.OK) != (s == text) {
					t.Errorf("%q: %d", s, e)
				}
			}
			k.agrees(t, r, text[:i])
			k.agrees(t, r, text[i:])
			k.agrees(t, r, text[:i]+text[i+1:])
		}
	}
}

func TestP142Heads(t *testing.T) {
	r := sign.NewRing("a")
	body, kid := bodyOf(example()), kidOf("a")
	for _, k := range kinds() {
		good := k.headOf(kid)
		name := `"kid":"` + kid + `"`
		alg, typ := `"alg":"`+k.alg+`"`, `"typ":"`+k.typ+`"`
		for _, head := range []string{
			"", "{}", "[]", "null", `"` + kid + `"`, "7", good + " ", " " + good, good + good, good[:len(good)-1], good[1:], good + ",", good + "\n", "{" + alg + `,"kid":"` + kid, "{" + alg + `,"kid":"` + kid + `"`, "{" + alg + `,"kid":"` + kid + `",`, kid + `",` + typ + "}", kid,
			"{ " + good[1:], strings.ReplaceAll(good, ":", ": "), strings.ReplaceAll(good, ",", ", "), strings.ReplaceAll(good, `"`, `'`),
			"{" + alg + "," + typ + "," + name + "}", "{" + typ + "," + alg + "," + name + "}", "{" + name + "," + alg + "," + typ + "}", "{" + alg + "," + name + "}", "{" + alg + "," + typ + "}", "{" + name + "," + typ + "}",
			"{" + alg + "," + name + "," + typ + `,"b64":true}`, `{"a":1,` + good[1:], "{" + alg + "," + name + "," + name + "," + typ + "}", "{" + alg + "," + alg + "," + name + "," + typ + "}",
			strings.Replace(good, k.alg, "none", 1), strings.Replace(good, k.alg, "hs256", 1), strings.Replace(good, k.alg, "HS512", 1), strings.Replace(good, k.alg, "", 1), strings.Replace(good, k.typ, "jwt", 1), strings.Replace(good, k.typ, "", 1), strings.Replace(good, k.typ, "AT+JWT", 1),
			`{"alg":"HS256",` + name + `,"typ":"JWT"}`, `{"alg":"ES256",` + name + `,"typ":"at+jwt"}`,
			strings.Replace(good, name, `"kid":null`, 1), strings.Replace(good, name, `"kid":7`, 1), strings.Replace(good, name, `"kid":["`+kid+`"]`, 1), strings.Replace(good, name, `"kid":`, 1), strings.Replace(good, name, `"kid":"`, 1), strings.Replace(good, name, `"Kid":"`+kid+`"`, 1), strings.Replace(good, name, `"kid"`, 1),
			strings.Replace(good, name, `"kid":"\u00`+fmt.Sprintf("%02x", kid[0])+kid[1:]+`"`, 1), strings.Replace(good, `at+jwt`, `at\u002bjwt`, 1) + " ",
		} {
			same(t, head, k.agrees(t, r, k.sealed("a", head, body)), api.ErrTokenText)
		}
		k.is(t, r, k.sealed("a", good, body), example())
		other := id()
		if k.typ == "JWT" {
			other = access()
		}
		same(t, "another kind's head", k.agrees(t, r, k.sealed("a", other.headOf(kid), body)), api.ErrTokenText)
		same(t, "another kind's seal", k.agrees(t, r, other.sealed("a", good, body)), api.ErrTokenSign)
	}
}

// A head may have any text as its key's name: of those that the ring has not, the error is another one than of what is no head.
func TestP142NamesOfKeys(t *testing.T) {
	r, body := ringOf(t, "a", "b"), bodyOf(example())
	for _, k := range kinds() {
		with := func(form string) string {
			return k.sealed("a", `{"alg":"`+k.alg+`","kid":`+form+`,"typ":"`+k.typ+`"}`, body)
		}
		names := []string{"", "a", kidOf("other"), kidOf("b"), kidOf("a") + "a", kidOf("a")[1:], strings.ToUpper(kidOf("a")), "\x00", `"`, `\`, `\"`, "é", "\U0001F600", "\ufffd", "\u2028", `","typ":"` + k.typ + `"}`, `","kid":"` + kidOf("a")}
		for b := range 128 {
			names = append(names, string(rune(b)), "x"+string(rune(b))+string(rune(b))+"y")
		}
		for _, n := range []int{4093, 4094, 4095, 4096, 4097, 4098, 8190, 8192, 8193, 16000, 16384, 16385, 20000, 1 << 16} {
			names = append(names, strings.Repeat("x", n), strings.Repeat("é", n/2), strings.Repeat("\x01", n/6), strings.Repeat("x", n%7)+strings.Repeat("\U0001F600\n\x02", n/12))
		}
		// At each place about which the name might be cut.
		for n := 4080; n < 4100; n++ {
			x := strings.Repeat("x", n)
			names = append(names, x+"\n", x+"\x01", x+"é", x+"\U0001F600", x+`"`, x+kidOf("a"))
		}
		for _, name := range names {
			same(t, name, k.agrees(t, r, with(quoted(name))), api.ErrTokenSign)
		}
		for _, form := range []string{`""`, `"\n"`, `"` + strings.Repeat("x", 20000) + `"`} {
			same(t, form, k.agrees(t, r, with(form)), api.ErrTokenSign)
		}
		long := strings.Repeat("x", 4095)
		for _, form := range []string{
			`"\/"`, `"\u0041"`, `"\u00e9"`, `"\ud83d\ude00"`, `"\u000A"`, `"\u000a"`, `"\u001F"`, `"\u007f"`, `"\u"`, `"\u00"`, `"\u000"`, `"\u0000`, `"\"`, `"\`, `"\x"`, `"\B"`, `"""`, `"a"b"`, `"a","b"`, "\"\n\"", "\"\x00\"", "\"\x1f\"", "\"\xff\"", "\"\xc3\"", "\"\xed\xa0\x80\"", `"é` + "\x80\"",
			`"` + long + `\u0041"`, `"` + long + `\"`, `"` + long + `""`, `"` + long + long + "\n\"", `"` + long + "\xc3\"", `"` + long + "é\xa9\"", `"` + long + `\u00"`, `"` + strings.Repeat(long, 4) + `\/"`, `"` + strings.Repeat(long, 4) + "\xff\"", `"` + strings.Repeat(long, 4), strings.Repeat(long, 4) + `"`,
		} {
			same(t, form, k.agrees(t, r, with(form)), api.ErrTokenText)
		}
	}
}

func TestP142Bodies(t *testing.T) {
	r := sign.NewRing("a")
	good := bodyOf(example())
	with := func(old, other string) string {
		if strings.Count(good, old) != 1 {
			t.Fatal(old)
		}
		return strings.Replace(good, old, other, 1)
	}
	bad := []string{
		"", "{}", "[]", "null", "7", `""`, "[" + good + "]", good + " ", " " + good, "{ " + good[1:], good + good, good[:len(good)-1], good[1:], good + "\n", good + ",", strings.ReplaceAll(good, ":1", ": 1"), strings.ReplaceAll(good, ",", ", "),
		with(`"iss":"i",`, ""), with(`"sub":"u:ann",`, ""), with(`"aud":"api",`, ""), with(`"client_id":"web",`, ""), with(`"jti":"7",`, ""), with(`"iat":1,`, ""), with(`"exp":61,`, ""), with(`"scope":"mail read",`, ""), with(`"level":0,`, ""),
		with(`"iss":"i","sub":"u:ann"`, `"sub":"u:ann","iss":"i"`), with(`"iat":1,"exp":61`, `"exp":61,"iat":1`), with(`"level":0,"act":{"sub":"c:job"}`, `"act":{"sub":"c:job"},"level":0`), with(`"act":{"sub":"c:job"}`, `"nonce":"n","act":{"sub":"c:job"}`),
		with(`"iss":"i"`, `"iss":"i","iss":"i"`), with(`"iss":"i"`, `"iss":"i","x":1`), with(`{"iss":`, `{"":0,"iss":`), with(`{"sub":"c:job"}}`, `{"sub":"c:job"},"x":null}`), with(`"iss"`, `"Iss"`), with(`"client_id"`, `"client"`),
		with(`"iss":"i"`, `"iss":null`), with(`"iss":"i"`, `"iss":7`), with(`"iss":"i"`, `"iss":["i"]`), with(`"iss":"i"`, `"iss":"\u0069"`), with(`"iss":"i"`, `"iss":"\/"`), with(`"iss":"i"`, "\"iss\":\"\xff\""), with(`"iss":"i"`, "\"iss\":\"\n\""), with(`"jti":"7"`, `"jti":7`), with(`"aud":"api"`, `"aud":["api"]`),
		with(`"iat":1`, `"iat":01`), with(`"iat":1`, `"iat":-1`), with(`"iat":1`, `"iat":-0`), with(`"iat":1`, `"iat":+1`), with(`"iat":1`, `"iat":1.0`), with(`"iat":1`, `"iat":1e0`), with(`"iat":1`, `"iat":"1"`), with(`"iat":1`, `"iat":null`), with(`"iat":1`, `"iat":true`), with(`"iat":1`, `"iat":1099511627777`), with(`"iat":1`, `"iat":1000000000000000`), with(`"iat":1`, `"iat":18446744073709551617`), with(`"iat":1`, `"iat":`+strings.Repeat("9", 4000)), with(`"exp":61`, `"exp":[61]`), with(`"exp":61`, `"exp":1099511627777`),
		with(`"level":0`, `"level":10`), with(`"level":0`, `"level":-0`), with(`"level":0`, `"level":00`), with(`"level":0`, `"level":"0"`), with(`"level":0`, `"level":null`), with(`"level":0`, `"level":0.0`),
		with(`mail read`, `mail  read`), with(`mail read`, ` mail read`), with(`mail read`, `mail read `), with(`mail read`, ` `), with(`mail read`, `read mail`), with(`mail read`, `mail mail`), with(`mail read`, `mail\tread`), with(`mail read`, `mail,read é`), with(`mail read`, `mail\"read`), with(`mail read`, `mail\\read`), with(`mail read`, strings.Repeat("x", 33)), with(`"mail read"`, `["mail","read"]`), with(`"mail read"`, `null`), with(`mail read`, "a b c d e f g h i j k l m n o p q"), with(`mail read`, strings.Repeat("a ", 5000)),
		with(`{"sub":"c:job"}`, `{}`), with(`{"sub":"c:job"}`, `{"sub":""}`), with(`{"sub":"c:job"}`, `"c:job"`), with(`{"sub":"c:job"}`, `["c:job"]`), with(`{"sub":"c:job"}`, `null`), with(`{"sub":"c:job"}`, `{"sub":7}`), with(`{"sub":"c:job"}`, `{"sub":"c:job","act":{}}`), with(`{"sub":"c:job"}`, `{"sub":"c:job","act":null}`), with(`{"sub":"c:job"}`, `{"sub":"c:job","act":{"sub":""}}`), with(`{"sub":"c:job"}`, `{"act":{"sub":"a"},"sub":"c:job"}`), with(`{"sub":"c:job"}`, `{"sub":"c:job","x":1}`), with(`{"sub":"c:job"}`, `{"sub":"c:job","nonce":"n"}`), with(`{"sub":"c:job"}`, `{"act":{"sub":"a"}}`), with(`{"sub":"c:job"}`, `{"sub":"c:job","sub":"c:job"}`),
		with(`{"sub":"c:job"}`, `{"sub":"a","act":{"sub":"b","act":{"sub":"c","act":{"sub":"d","act":{"sub":"e"}}}}}`), with(`{"sub":"c:job"}`, strings.Repeat(`{"sub":"a","act":`, 14)+`{"sub":"a"}`+strings.Repeat("}", 14)), with(`{"sub":"c:job"}`, strings.Repeat(`{"sub":"a","act":`, 60)+`{"sub":"a"}`+strings.Repeat("}", 60)),
		good[:len(good)-1] + `,"nonce":""}`, good[:len(good)-1] + `,"nonce":null}`, good[:len(good)-1] + `,"nonce":7}`, good[:len(good)-1] + `,"nonce":"` + strings.Repeat("n", 129) + `"}`, good[:len(good)-1] + `,"nonce":"n","nonce":"n"}`, good[:len(good)-1] + `,"nonce":"n","x":1}`,
		with(`"i"`, `"`+strings.Repeat("i", 129)+`"`), with(`"i"`, `"`+strings.Repeat("i", 20000)+`"`), with(`c:job`, strings.Repeat("i", 129)),
	}
	for _, k := range kinds() {
		for _, body := range bad {
			same(t, body, k.agrees(t, r, k.sealed("a", k.headOf(kidOf("a")), body)), api.ErrTokenText)
		}
		for _, body := range []string{
			good, good[:len(good)-1] + `,"nonce":"n"}`, with(`,"act":{"sub":"c:job"}`, ""), with(`,"act":{"sub":"c:job"}`, `,"nonce":"n"`), with("mail read", ""), with("mail read", "read"), with(`"i"`, `"\u0001\n\"\\é"`), with(`"i"`, `""`), with(`"iat":1,`, `"iat":0,`), with(`"iat":1`, `"iat":1099511627776`), with(`"level":0`, `"level":9`),
			with(`{"sub":"c:job"}`, `{"sub":"a","act":{"sub":"b","act":{"sub":"c","act":{"sub":"d"}}}}`),
		} {
			same(t, body, k.agrees(t, r, k.sealed("a", k.headOf(kidOf("a")), body)), api.OK)
		}
	}
}

// What stands wrong in the text is told ahead of a seal, or a key's name, that is another one.
func TestP142WhichErrorIsNamedFirst(t *testing.T) {
	r := sign.NewRing("a")
	for _, k := range kinds() {
		head, body, _ := k.parts()
		bad := base(bodyOf(api.Claims{Exp: -1}))
		unknown := base(k.headOf("unknown"))
		for _, s := range []string{head + "." + bad + ".", head + "." + bad + ".AAAA", unknown + "." + bad + ".AAAA", unknown + "." + body + ".=", base("{}") + "." + body + ".AAAA", unknown + ".." + base("x"), "A." + body + ".AAAA", unknown + ".A.AAAA"} {
			same(t, s, k.agrees(t, r, s), api.ErrTokenText)
		}
		for _, s := range []string{unknown + "." + body + ".", unknown + "." + body + ".AAAA", k.over("a", unknown+"."+body), k.over("other", head+"."+body)} {
			same(t, s, k.agrees(t, r, s), api.ErrTokenSign)
		}
	}
}

func TestP142Keys(t *testing.T) {
	seeds := []string{"a", "b", "c"}
	r := ringOf(t, seeds...)
	for _, k := range kinds() {
		for _, seed := range append(seeds, "other") {
			for _, named := range append(seeds, "other") {
				want := api.ErrTokenSign
				if seed == named && seed != "other" {
					want = api.OK
				}
				text := k.sealed(seed, k.headOf(kidOf(named)), bodyOf(example()))
				same(t, text, k.agrees(t, r, text), want)
			}
		}
		for _, other := range []*sign.Ring{sign.NewRing("b"), ringOf(t, "c", "b")} {
			k.refuses(t, other, k.of("a", example()), api.ErrTokenSign)
			k.is(t, other, k.of("b", example()), example())
		}
		// The seal is that of what stands ahead of it, of nothing less and nothing more.
		head, body, _ := k.parts()
		for _, s := range []string{"", head, head + ".", head + "." + body + ".", head + body, k.headOf(kidOf("a")) + "." + bodyOf(example()), body} {
			same(t, s, k.agrees(t, r, head+"."+body+"."+base(k.seal("a", s))), api.ErrTokenSign)
		}
	}
}

// P14.2 of ReadId: what the ring verifies, which is also a signature that is not the one that it makes.
func TestP142ReadIdVerifies(t *testing.T) {
	r, k := sign.NewRing("a"), id()
	head, body, _ := k.parts()
	sig := signatureBy("a", head+"."+body)
	k.is(t, r, head+"."+body+"."+base(turned(sig)), example())
	for _, other := range []string{sig[:63], sig + "\x00", sig[32:] + sig[:32], strings.Repeat("\xff", 64), macBy("a", head+"."+body)} {
		same(t, fmt.Sprintf("%x", other), k.agrees(t, r, head+"."+body+"."+base(other)), api.ErrTokenSign)
	}
}

func TestP142ByChance(t *testing.T) {
	by := rand.New(rand.NewSource(1420))
	r := ringOf(t, "a", "b")
	counts := map[api.Errno]int{}
	for range 6000 {
		k := access()
		if by.Intn(40) == 0 {
			k = id()
		}
		head, body := k.headOf(chance(by, kidOf("a"), kidOf("b"), "other", someText(by))), bodyOf(someClaims(by))
		for range by.Intn(3) {
			body = otherwise(by, body)
		}
		if by.Intn(5) == 0 {
			head = otherwise(by, head)
		}
		text := k.sealed(chance(by, "a", "b"), head, body)
		if by.Intn(10) == 0 {
			text = otherwise(by, text)
		}
		counts[k.agrees(t, r, text)]++
	}
	for _, e := range []api.Errno{api.OK, api.ErrTokenText, api.ErrTokenSign} {
		if counts[e] < 300 {
			t.Errorf("%d came %d times", e, counts[e])
		}
	}
}

// otherwise: a text with a part of it in another's place, or out of it, or another one in it.
func otherwise(by *rand.Rand, s string) string {
	at := by.Intn(len(s) + 1)
	end := min(len(s), at+by.Intn(4))
	return s[:at] + chance(by, "", "0", "1", "9", `"`, `\n`, `\u0001`, `\u00`, "é", "\xa9", "}", "{", ",", " ", "a", ".", s[at:end]+s[at:end]) + s[end:]
}

func TestP144AfterEveryTurn(t *testing.T) {
	by := rand.New(rand.NewSource(144))
	r := sign.NewRing("0")
	issued := map[string]api.Claims{}
	for n := 1; n <= api.MaxRing; n++ {
		c := someClaims(by)
		for _, k := range kinds() {
			text := k.issues(t, r, c)
			same(t, "laid again", k.of(r.Seeds()[n-1], c), text)
			issued[k.typ+text] = c
		}
		clone := r.Clone()
		r.Turn(fmt.Sprint(n))
		for typed, c := range issued {
			for _, k := range kinds() {
				if text, ok := strings.CutPrefix(typed, k.typ); ok {
					k.is(t, r, text, c)
					k.is(t, clone, text, c)
					k.is(t, ringOf(t, r.Seeds()...), text, c)
				}
			}
		}
	}
	same(t, "keys", len(r.Kids()), api.MaxRing)
}

func TestP144NoneIsReadAsTheOther(t *testing.T) {
	by := rand.New(rand.NewSource(1440))
	r := ringOf(t, "a", "b")
	for range 50 {
		c := someClaims(by)
		access().refuses(t, r, id().issues(t, r, c), api.ErrTokenText)
		id().refuses(t, r, access().issues(t, r, c), api.ErrTokenText)
	}
}

// What is read, laid again with its key's name, is the same text.
func TestP144LaidAgain(t *testing.T) {
	by := rand.New(rand.NewSource(1441))
	r, k := sign.NewRing("a"), access()
	read := 0
	for range 3000 {
		text := k.sealed("a", k.headOf(kidOf("a")), otherwise(by, bodyOf(someClaims(by))))
		if c, e := k.read(r, text); e == api.OK {
			read++
			same(t, "laid again", k.issues(t, r, c), text)
		}
	}
	if read < 100 {
		t.Errorf("%d were read", read)
	}
}

// No clock is looked at.
func TestP144WhatIsOverIsRead(t *testing.T) {
	r := sign.NewRing("a")
	for _, c := range []api.Claims{{Exp: 0}, {Iat: api.MaxTick}, {Iat: 61, Exp: 1}, {Exp: api.MaxTick}} {
		for _, k := range kinds() {
			k.is(t, r, k.issues(t, r, c), c)
		}
	}
}

func FuzzR1EndsAtAnything(f *testing.F) {
	for _, k := range kinds() {
		f.Add(k.of("a", example()), "", "")
		f.Add("", k.headOf(kidOf("a")), bodyOf(full()))
		f.Add("", k.headOf(`"\`+"\n"), bodyOf(api.Claims{Nonce: "n", Act: []string{"a", "b"}}))
	}
	r := ringOf(f, "a", "b")
	f.Fuzz(func(t *testing.T, text, head, body string) {
		for _, k := range kinds() {
			k.agrees(t, r, text)
			k.agrees(t, r, k.sealed("a", head, body))
			k.agrees(t, r, k.sealed("a", k.headOf(kidOf("a")), body))
		}
		c := api.Claims{Iss: text, Sub: head, Nonce: body, Scope: strings.Split(text, " "), Act: strings.Split(head, "."), Level: len(body)}
		same(t, "Check", token.Check(c) == api.OK, mayBe(c))
		if token.Check(c) == api.OK {
			slices.Reverse(c.Act)
			access().is(t, r, access().issues(t, r, c), c)
		}
	})
}
