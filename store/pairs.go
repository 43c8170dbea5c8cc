package store

import (
	"iter"
	"maps"
	"slices"
	"strings"

	"seneschal/api"
)

// isKey, isValue: may it be one?
func isKey(s string) bool { return len(s) >= 1 && len(s) <= api.MaxKey }

func isValue(s string) bool { return len(s) <= api.MaxValue }

// copied: a pair in memory of its own.
func copied(p api.Pair) api.Pair {
	return api.Pair{Key: strings.Clone(p.Key), Value: strings.Clone(p.Value)}
}

// pairs, by their keys, and how many bytes they have in all.
type pairs struct {
	at    map[string]api.Pair
	bytes int
}

func noPairs() pairs { return pairs{at: map[string]api.Pair{}} }

func (p pairs) clone() pairs { return pairs{at: maps.Clone(p.at), bytes: p.bytes} }

// fit: are they within the quota?
func (p pairs) fit() bool { return len(p.at) <= api.MaxKeys && p.bytes <= api.MaxStore }

// put lays a pair in the place of the one with its key; drop takes away the one with a key, if there is one.
func (p *pairs) put(pair api.Pair) {
	p.drop(pair.Key)
	p.at[pair.Key] = pair
	p.bytes += len(pair.Key) + len(pair.Value)
}

func (p *pairs) drop(key string) {
	old := p.at[key]
	delete(p.at, key)
	p.bytes -= len(old.Key) + len(old.Value)
}

// get: a key's value, and whether the key is there.
func (p pairs) get(key string) (string, bool) {
	pair, ok := p.at[key]
	return strings.Clone(pair.Value), ok
}

// scan: the pairs from a key on, by rising keys, so many at most.
func (p pairs) scan(from string, most int) []api.Pair {
	var l []api.Pair
	for pair := range p.rising(from) {
		if len(l) >= most {
			break
		}
		l = append(l, copied(pair))
	}
	return l
}

// rising goes through the pairs from a key on, by rising keys.
func (p pairs) rising(from string) iter.Seq[api.Pair] {
	return func(yield func(api.Pair) bool) {
		var keys []string
		for key := range p.at {
			if key >= from {
				keys = append(keys, key)
			}
		}
		slices.Sort(keys)
		for _, key := range keys {
			if !yield(p.at[key]) {
				return
			}
		}
	}
}

// changesTo: those that make q of p, by rising keys.
func (p pairs) changesTo(q pairs) []change {
	var l []change
	for key, pair := range q.at {
		// A key that p hasn't has the empty pair there, which is no pair of q.
		if p.at[key] != pair {
			l = append(l, change{kind: puts, Pair: pair})
		}
	}
	for key := range p.at {
		if _, ok := q.at[key]; !ok {
			l = append(l, change{kind: deletes, Pair: api.Pair{Key: key}})
		}
	}
	slices.SortFunc(l, func(a, b change) int { return strings.Compare(a.Key, b.Key) })
	return l
}

// change makes a change; false, if it is none.
func (p *pairs) change(c change) bool {
	old, ok := p.at[c.Key]
	switch {
	case c.kind == puts && old != c.Pair:
		p.put(c.Pair)
	case c.kind == deletes && ok:
		p.drop(c.Key)
	default:
		return false
	}
	return true
}
