package json

import (
	"strings"
	"unicode/utf8"

	"seneschal/api"
)

// Runes that stand for others, two of them for one of 65536 or above.
const (
	firstHigh = 0xD800
	firstLow  = 0xDC00
	lastLow   = 0xDFFF
)

// reader goes through a text from the left, and gives up by a panic of the error at the first place that is wrong.
type reader struct {
	s  string
	at int
}

// Parse: the value of a text.
func Parse(s string) (v api.Json, e api.Errno) {
	if len(s) > api.MaxJson {
		return api.Json{}, api.ErrJsonLong
	}
	defer func() {
		if fault := recover(); fault != nil {
			v, e = api.Json{}, fault.(api.Errno)
		}
	}()
	r := &reader{s: s}
	v = r.value(0)
	r.blanks()
	must(r.at == len(s))
	return v, api.OK
}

// must gives up, if what is read isn't as it has to be.
func must(ok bool) {
	if !ok {
		panic(api.ErrJsonText)
	}
}

// blanks steps over those that stand here.
func (r *reader) blanks() {
	for r.at < len(r.s) && strings.IndexByte(" \t\n\r", r.s[r.at]) >= 0 {
		r.at++
	}
}

// take steps over a part, if it is what stands next.
func (r *reader) take(part string) bool {
	r.blanks()
	ok := strings.HasPrefix(r.s[r.at:], part)
	if ok {
		r.at += len(part)
	}
	return ok
}

// value: the one that stands next, within as many others as outer says.
func (r *reader) value(outer int) api.Json {
	switch {
	case r.take("["):
		return r.list(outer)
	case r.take("{"):
		return r.object(outer)
	case r.take(`"`):
		return api.Json{Kind: api.JsonText, Text: r.text()}
	case r.take("null"):
		return api.Json{Kind: api.JsonNull}
	case r.take("false"):
		return api.Json{Kind: api.JsonFalse}
	case r.take("true"):
		return api.Json{Kind: api.JsonTrue}
	}
	n := number(r.s[r.at:])
	must(n > 0)
	r.at += n
	// A copy, for the answer is not to hold the whole of s.
	return api.Json{Kind: api.JsonNumber, Text: strings.Clone(r.s[r.at-n : r.at])}
}

// enter gives up, if a bracket that opens stands too deep.
func enter(outer int) {
	if outer >= api.MaxDepth {
		panic(api.ErrJsonDeep)
	}
}

// more: does a comma come, and not the bracket that closes?
func (r *reader) more(closing string) bool {
	if r.take(closing) {
		return false
	}
	must(r.take(","))
	return true
}

// list: what stands behind its first bracket.
func (r *reader) list(outer int) api.Json {
	enter(outer)
	v := api.Json{Kind: api.JsonList}
	for more := !r.take("]"); more; more = r.more("]") {
		v.List = append(v.List, r.value(outer+1))
	}
	return v
}

// object: what stands behind its first bracket.
func (r *reader) object(outer int) api.Json {
	enter(outer)
	v := api.Json{Kind: api.JsonObject}
	seen := map[string]struct{}{}
	for more := !r.take("}"); more; more = r.more("}") {
		must(r.take(`"`))
		key := r.text()
		// At once, and not when the object ends: what is wrong within its value comes later.
		_, twice := seen[key]
		must(!twice)
		seen[key] = struct{}{}
		must(r.take(":"))
		v.Keys = append(v.Keys, key)
		v.List = append(v.List, r.value(outer+1))
	}
	return v
}

// next: a byte of a text.
func (r *reader) next() byte {
	must(r.at < len(r.s))
	r.at++
	return r.s[r.at-1]
}

// text: what stands behind its first ".
func (r *reader) text() string {
	var b strings.Builder
	for {
		switch c := r.next(); c {
		case '"':
			must(utf8.ValidString(b.String()))
			return b.String()
		case '\\':
			b.WriteRune(r.escaped())
		default:
			must(c >= ' ')
			b.WriteByte(c)
		}
	}
}

// escaped: what stands behind a \.
func (r *reader) escaped() rune {
	switch c := r.next(); c {
	case '/':
		return '/'
	case 'u':
		return r.numbered()
	default:
		i := strings.IndexByte(letters, c)
		must(i >= 0)
		return rune(meant[i])
	}
}

// numbered: the rune whose numbers stand behind a \u.
func (r *reader) numbered() rune {
	first := r.four()
	if first < firstHigh || first > lastLow {
		return first
	}
	must(first < firstLow)
	must(r.next() == '\\')
	must(r.next() == 'u')
	second := r.four()
	must(firstLow <= second && second <= lastLow)
	return 0x10000 + (first-firstHigh)<<10 + (second - firstLow)
}

// four: the number of four digits of base sixteen.
func (r *reader) four() rune {
	n := rune(0)
	for range 4 {
		c := r.next()
		switch {
		case '0' <= c && c <= '9':
			c -= '0'
		case 'a' <= c && c <= 'f':
			c -= 'a' - 10
		case 'A' <= c && c <= 'F':
			c -= 'A' - 10
		default:
			must(false)
		}
		n = n<<4 | rune(c)
	}
	return n
}
