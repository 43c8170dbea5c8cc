package json

import (
	"strings"

	"seneschal/api"
)

const lowDigits = "0123456789abcdef"

// printer puts a form together, and gives up by a panic of the error as soon as it grows too long.
type printer struct {
	b strings.Builder
}

// Print: its form.
func Print(v api.Json) (s string, e api.Errno) {
	if e := Check(v); e != api.OK {
		return "", e
	}
	defer func() {
		if fault := recover(); fault != nil {
			s, e = "", fault.(api.Errno)
		}
	}()
	var p printer
	p.value(v)
	return p.b.String(), api.OK
}

// put: more of the form.
func (p *printer) put(s string) {
	if len(s) > api.MaxJson-p.b.Len() {
		panic(api.ErrJsonLong)
	}
	p.b.WriteString(s)
}

// value: the form of one that may be.
func (p *printer) value(v api.Json) {
	switch v.Kind {
	case api.JsonNull:
		p.put("null")
	case api.JsonFalse:
		p.put("false")
	case api.JsonTrue:
		p.put("true")
	case api.JsonNumber:
		p.put(v.Text)
	case api.JsonText:
		p.text(v.Text)
	case api.JsonList:
		p.put("[")
		p.elements(v)
		p.put("]")
	case api.JsonObject:
		p.put("{")
		p.elements(v)
		p.put("}")
	}
}

// elements: those of a list, or an object's members.
func (p *printer) elements(v api.Json) {
	for i, x := range v.List {
		if i > 0 {
			p.put(",")
		}
		if v.Kind == api.JsonObject {
			p.text(v.Keys[i])
			p.put(":")
		}
		p.value(x)
	}
}

// text: the form of one.
func (p *printer) text(s string) {
	p.put(`"`)
	for i := range len(s) {
		p.put(written(s[i]))
	}
	p.put(`"`)
}

// written: a byte as it stands in a text.
func written(c byte) string {
	if i := strings.IndexByte(meant, c); i >= 0 {
		return `\` + letters[i:i+1]
	}
	if c < ' ' {
		return `\u00` + lowDigits[c>>4:c>>4+1] + lowDigits[c&15:c&15+1]
	}
	return string([]byte{c})
}
