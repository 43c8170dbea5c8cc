package codec

import (
	"strings"

	"seneschal/api"
)

// Form: pairs as one text.
func Form(l []api.Part) (string, api.Errno) {
	if len(l) > api.MaxParts {
		return "", api.ErrCodecLong
	}
	var b strings.Builder
	for i, p := range l {
		// No text is longer than its form: one that is too long need not be written out.
		if len(p.Name) > api.MaxForm || len(p.Value) > api.MaxForm {
			return "", api.ErrCodecLong
		}
		if i > 0 {
			b.WriteByte('&')
		}
		b.WriteString(toField(p.Name))
		b.WriteByte('=')
		b.WriteString(toField(p.Value))
	}
	if b.Len() > api.MaxForm {
		return "", api.ErrCodecLong
	}
	return b.String(), api.OK
}

// FromForm: the pairs of a text.
func FromForm(s string) ([]api.Part, api.Errno) {
	if len(s) > api.MaxForm {
		return nil, api.ErrCodecLong
	}
	if s == "" {
		return nil, api.OK
	}
	texts := strings.Split(s, "&")
	if len(texts) > api.MaxParts {
		return nil, api.ErrCodecLong
	}
	l := make([]api.Part, 0, len(texts))
	for _, t := range texts {
		p, e := fromPart(t)
		if e != api.OK {
			return nil, e
		}
		l = append(l, p)
	}
	return l, api.OK
}

// fromPart: the pair of what stands between two &.
func fromPart(s string) (api.Part, api.Errno) {
	if s == "" {
		return api.Part{}, api.ErrCodecForm
	}
	before, behind, _ := strings.Cut(s, "=")
	name, e := fromField(before)
	if e != api.OK {
		return api.Part{}, e
	}
	value, e := fromField(behind)
	if e != api.OK {
		return api.Part{}, e
	}
	return api.Part{Name: name, Value: value}, api.OK
}

// toField: a name, or a value, as it stands in a form.
func toField(s string) string {
	// A % of Percent's begins an escape always, so %20 is a blank and nothing else.
	return strings.ReplaceAll(Percent(s), "%20", "+")
}

// fromField: the name, or the value, that stands so in a form.
func fromField(s string) (string, api.Errno) {
	return FromPercent(strings.ReplaceAll(s, "+", " "))
}

// Get: the first value of a name, and how many there are.
func Get(l []api.Part, name string) (string, int) {
	value, n := "", 0
	for _, p := range l {
		if p.Name != name {
			continue
		}
		if n == 0 {
			// An answer shares no memory with what was handed in.
			value = strings.Clone(p.Value)
		}
		n++
	}
	return value, n
}
