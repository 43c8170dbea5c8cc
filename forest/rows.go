package forest

import (
	"slices"
	"strconv"
	"strings"

	"seneschal/api"
	"seneschal/people"
)

// The key of the next number's row, how the keys of nodes begin, and how many digits stand behind that.
const (
	nextKey  = "forest"
	nodeKey  = "node/"
	idDigits = 8
)

// The digits that are false and true.
const (
	no  = "0"
	yes = "1"
)

func nextRow(next int) api.Pair {
	return api.Pair{Key: nextKey, Value: people.Form(numbers(next))}
}

func nodeRow(n api.Node) api.Pair {
	id := strconv.Itoa(n.Id)
	return api.Pair{
		Key: nodeKey + strings.Repeat("0", idDigits-len(id)) + id,
		Value: people.Form(slices.Concat(
			numbers(n.Kind, n.Parent),
			[]string{n.Subject, n.Client, n.Audience},
			listed(n.Scope),
			numbers(n.Born, n.Exp),
			[]string{flag(n.Dead), flag(n.Spent)},
			listed(n.Actors),
			numbers(n.Level),
			[]string{n.Secret, n.Data},
		)),
	}
}

// numbers, flag and listed: how they stand in a row.
func numbers(l ...int) []string {
	var texts []string
	for _, n := range l {
		texts = append(texts, strconv.Itoa(n))
	}
	return texts
}

func flag(on bool) string {
	if on {
		return yes
	}
	return no
}

func listed(l []string) []string { return slices.Concat(numbers(len(l)), l) }

// lay lays what rows tell, where there is nothing yet; false, if that may not be.
func (f *Forest) lay(rows []api.Pair) bool {
	if len(rows) == 0 || len(rows) > 1+api.MaxNodes {
		return false
	}
	f.next = readerOf(rows[0]).number()
	if f.next < 1 || f.next > maxNext {
		return false
	}
	last := 0
	for _, row := range rows[1:] {
		n := nodeOf(row)
		if n.Id <= last || n.Id >= f.next || n.Parent >= n.Id || !mayBe(n) || f.by(n.Secret) != nil {
			return false
		}
		f.put(n)
		last = n.Id
	}
	return true
}

// nodeOf: the node that a row tells, if it tells one.
func nodeOf(row api.Pair) api.Node {
	id := reader{strings.TrimPrefix(row.Key, nodeKey)}
	r := readerOf(row)
	return api.Node{
		Id:       id.number(),
		Kind:     r.number(),
		Parent:   r.number(),
		Subject:  r.text(),
		Client:   r.text(),
		Audience: r.text(),
		Scope:    r.list(),
		Born:     r.number(),
		Exp:      r.number(),
		Dead:     r.flag(),
		Spent:    r.flag(),
		Actors:   r.list(),
		Level:    r.number(),
		Secret:   r.text(),
		Data:     r.text(),
	}
}

// reader takes one text of a row behind the other. What is not there, or is none, is the zero value.
type reader []string

func readerOf(row api.Pair) *reader {
	texts, _ := people.Texts(row.Value)
	return (*reader)(&texts)
}

// take: the next texts, as many as that, or all that there are.
func (r *reader) take(n int) []string {
	n = max(0, min(n, len(*r)))
	l := (*r)[:n]
	*r = (*r)[n:]
	return l
}

func (r *reader) text() string { return strings.Join(r.take(1), "") }

func (r *reader) number() int {
	n, err := strconv.Atoi(r.text())
	if err != nil {
		return 0
	}
	return n
}

func (r *reader) flag() bool { return r.text() == yes }

func (r *reader) list() []string { return r.take(r.number()) }
