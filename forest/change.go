package forest

import (
	"slices"
	"strings"

	"seneschal/api"
)

// maxNext: the greatest next number; it is never given.
const maxNext = 99999999

// Plant lays a node more; now is the clock.
func (f *Forest) Plant(n api.Node, now int) (int, api.Errno) {
	switch parent := f.at(n.Parent); {
	case !mayBe(n):
		return 0, api.ErrForestNode
	case f.by(n.Secret) != nil:
		return 0, api.ErrForestSecret
	case n.Parent > 0 && (parent == nil || !parent.isWhole(now)):
		return 0, api.ErrForestDead
	}
	f.Prune(now)
	if len(f.nodes) >= api.MaxNodes || f.next >= maxNext {
		return 0, api.ErrForestFull
	}
	n = copied(n)
	n.Id, n.Dead, n.Spent = f.next, false, false
	f.put(n)
	f.next++
	return n.Id, api.OK
}

// Spend spends a node; Kill kills one, KillOf all of a subject, or of a client.
func (f *Forest) Spend(id, now int) api.Errno {
	n := f.at(id)
	switch {
	case n == nil:
		return api.ErrForestNode
	case n.Spent:
		// Who spends twice may be a thief: what the first one got is taken away too.
		n.kill()
		return api.ErrForestSpent
	case !n.isLive(now):
		return api.ErrForestDead
	}
	n.Spent = true
	return api.OK
}

func (f *Forest) Kill(id int) api.Errno {
	n := f.at(id)
	if n == nil {
		return api.ErrForestNode
	}
	n.kill()
	return api.OK
}

func (f *Forest) KillOf(principal string) int {
	count := 0
	for _, n := range f.nodes {
		if n.isOf(principal) && n.kill() {
			count++
		}
	}
	return count
}

// Lift sets a session's level, Note a node's data.
func (f *Forest) Lift(id, level int) api.Errno {
	n := f.at(id)
	if n == nil || n.Kind != api.Session || level < 1 || level > maxLevel {
		return api.ErrForestNode
	}
	n.Level = max(n.Level, level)
	return api.OK
}

func (f *Forest) Note(id int, data string) api.Errno {
	n := f.at(id)
	if n == nil || len(data) > maxData {
		return api.ErrForestNode
	}
	n.Data = strings.Clone(data)
	return api.OK
}

// Prune takes away what can never matter any more.
func (f *Forest) Prune(now int) int {
	kept := map[int]struct{}{}
	// Whatever hangs on a node stands behind it, and is asked ahead of it.
	for _, n := range slices.Backward(f.nodes) {
		if has(kept, n.Id) || n.isLive(now) {
			kept[n.Id], kept[n.Parent] = struct{}{}, struct{}{}
		}
	}
	before := len(f.nodes)
	f.nodes = slices.DeleteFunc(f.nodes, func(n *node) bool { return !has(kept, n.Id) })
	return before - len(f.nodes)
}

func has(ids map[int]struct{}, id int) bool {
	_, ok := ids[id]
	return ok
}
