package passkey_test

import "strings"

// deep: an object's member whose value has so many lists within one another.
func deep(n int) string { return `"deep":` + strings.Repeat("[", n) + strings.Repeat("]", n) }

// long: client data of so many bytes.
func long(kind string, size int) string {
	good := clientOf(kind, "c", "o")
	return good + strings.Repeat(" ", size-len(good))
}

// asClient: what says a type, the challenge c and the origin o, too.
func asClient(kind string) []string {
	good := clientOf(kind, "c", "o")
	t := `"type":"` + kind + `"`
	return []string{
		good, " " + good + "\n", "{ " + good[1:], strings.ReplaceAll(good, ":", " :\t"), strings.ReplaceAll(good, ",", "\r, "),
		`{"challenge":"c","origin":"o",` + t + `}`, `{"origin":"o","challenge":"c",` + t + `}`, `{"origin":"o",` + t + `,"challenge":"c"}`,
		`{` + t + `,"challenge":"c","origin":"o","crossOrigin":false,"topOrigin":null,"other":[1,{"type":7}],"":""}`, `{"a":{"type":"x","challenge":"d","origin":"p"},` + good[1:],
		`{"Type":"x","CHALLENGE":"d","Origin":"p",` + good[1:], `{"typ":"x","types":"x",` + good[1:],
		`{"type":"` + strings.Replace(kind, ".", `\u002e`, 1) + `","challenge":"\u0063","\u006frigin":"\u006F"}`, `{` + deep(15) + `,` + good[1:],
	}
}

// notClient: what is no JSON of an object that says a type, a challenge and an origin.
func notClient(kind string) []string {
	good := clientOf(kind, "c", "o")
	t := `"type":"` + kind + `"`
	l := []string{
		"", " ", "null", "7", `""`, "[]", "{}", "[" + good + "]", quoted(good), good + good, good + ",", good + "x", good[1:], good[:len(good)-1], "\xef\xbb\xbf" + good, good + "\x00", strings.ReplaceAll(good, `"`, `'`),
		`[` + good[1:len(good)-1] + `]`, `["type","challenge","origin"]`, `{"clientData":` + good + `}`, `{` + t + `,"challenge":"c","origin":"o",}`, `{,` + good[1:],
		`{` + t + `,"challenge":"c"}`, `{` + t + `,"origin":"o"}`, `{"challenge":"c","origin":"o"}`, `{` + t + `}`,
		`{"Type":"` + kind + `","challenge":"c","origin":"o"}`, `{` + t + `,"Challenge":"c","origin":"o"}`, `{` + t + `,"challenge":"c","ORIGIN":"o"}`, `{` + t + `,"challenge":"c","origin ":"o"}`,
		`{` + t + `,"challenge":"c","origin":"\ud800"}`, `{` + t + `,"challenge":"c","origin":"\x"}`, `{` + t + `,"challenge":"c` + "\n" + `","origin":"o"}`, `{` + t + `,"challenge":"c` + "\xff" + `","origin":"o"}`, `{` + t + `,"challenge":"c","origin":"o","more":` + "\"\xff\"}",
		// A key that comes twice makes no JSON, though it say the same.
		`{` + t + `,"challenge":"c","origin":"o",` + t + `}`, `{` + t + `,"challenge":"c","origin":"o","challenge":"d"}`, `{` + t + `,"challenge":"c","origin":"o","origin":"o"}`, `{` + t + `,"challenge":"c","origin":"o","a":1,"a":1}`, `{` + t + `,"challenge":"c","origin":"o","\u006frigin":"o"}`,
		`{` + deep(16) + `,` + good[1:],
	}
	for _, other := range []string{"null", "true", "false", "7", `["c"]`, "[]", "{}", `{"c":"c"}`} {
		l = append(l, `{"type":`+other+`,"challenge":"c","origin":"o"}`, `{`+t+`,"challenge":`+other+`,"origin":"o"}`, `{`+t+`,"challenge":"c","origin":`+other+`}`)
	}
	return l
}

// otherClient: what says another type, another challenge or another origin than c and o.
func otherClient(kind, other string) []string {
	l := []string{clientOf(other, "c", "o")}
	for _, x := range []string{"", "x", "webauthn.", "webauthn", kind + " ", " " + kind, kind + "\x00", strings.ToUpper(kind), strings.TrimPrefix(kind, "webauthn."), "payment.get", kind + other} {
		l = append(l, clientOf(x, "c", "o"), clientOf(kind, x, "o"), clientOf(kind, "c", x))
	}
	return append(l, clientOf(kind, "C", "o"), clientOf(kind, "c", "O"), clientOf(kind, "cc", "o"), clientOf(kind, "c", "o/"), clientOf(kind, "o", "c"), clientOf(kind, "c\x00", "o"), `{"a":"c",`+clientOf(kind, "d", "o")[1:])
}
