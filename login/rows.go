package login

import (
	"slices"
	"strconv"
	"strings"

	"seneschal/api"
	"seneschal/people"
)

// rowKey: how the keys of rows begin.
const rowKey = "login/"

// row: what is kept, as a row.
func (c *kept) row() api.Pair {
	texts := slices.Concat(
		[]string{c.Salt, c.Hash, c.Otp},
		numbers(c.Step, c.Fails, c.Until, len(c.Keys)),
	)
	for _, k := range c.Keys {
		texts = append(texts, k.Id, k.X, k.Y, strconv.Itoa(k.Count))
	}
	return api.Pair{Key: rowKey + c.User, Value: people.Form(texts)}
}

// numbers: how they stand in a row.
func numbers(l ...int) []string {
	var texts []string
	for _, n := range l {
		texts = append(texts, strconv.Itoa(n))
	}
	return texts
}

// lay lays what rows tell, where there is nothing yet; false, if that may not be.
func (l *Login) lay(rows []api.Pair) bool {
	if len(rows) > api.MaxUsers {
		return false
	}
	for _, row := range rows {
		c := keptOf(row)
		if !c.mayBe() {
			return false
		}
		l.put(c)
	}
	return true
}

// keptOf: what a row tells, if it tells something.
func keptOf(row api.Pair) kept {
	texts, _ := people.Texts(row.Value)
	r := &reader{texts}
	return kept{api.Credential{
		User:  strings.Clone(strings.TrimPrefix(row.Key, rowKey)),
		Salt:  r.text(),
		Hash:  r.text(),
		Otp:   r.text(),
		Step:  r.number(),
		Fails: r.number(),
		Until: r.number(),
		Keys:  r.keys(),
	}}
}

// reader takes one text of a row behind the other. What is not there, or is none, is the zero value.
type reader struct{ rest []string }

func (r *reader) text() string {
	if len(r.rest) == 0 {
		return ""
	}
	s := r.rest[0]
	r.rest = r.rest[1:]
	return s
}

func (r *reader) number() int {
	n, err := strconv.Atoi(r.text())
	if err != nil {
		return 0
	}
	return n
}

// keys: how many there are, and no more of them than one may have.
func (r *reader) keys() []api.Key {
	var l []api.Key
	for range min(r.number(), api.MaxKeysOf) {
		l = append(l, api.Key{Id: r.text(), X: r.text(), Y: r.text(), Count: r.number()})
	}
	return l
}
