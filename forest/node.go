package forest

import (
	"strings"

	"seneschal/api"
	"seneschal/people"
)

// clientPrefix: how principals that are clients begin.
const clientPrefix = "c:"

// How many bytes a node's secret and its data have at most, and how great its level is.
const (
	maxSecret = 64
	maxData   = 256
	maxLevel  = 3
)

// node is one that is there. It embeds what it was planted as, in which what became of it is noted; its lists are never changed, so that clones may share them.
type node struct {
	api.Node
	up *node // on which it hangs; nil: on none, or on one that is there no more
}

// isLive: can it be live at a time?
func (n *node) isLive(now int) bool {
	for _, holds := range []func(n *node, now int) bool{(*node).isUnspent, (*node).lasts, (*node).isWhole} {
		if !holds(n, now) {
			return false
		}
	}
	return true
}

func (n *node) isUnspent(_ int) bool { return !n.Spent }

func (n *node) lasts(now int) bool { return n.Exp > now }

// isWhole: is none of its path dead?
func (n *node) isWhole(_ int) bool {
	for ; n != nil; n = n.up {
		if n.Dead {
			return false
		}
	}
	return true
}

// kill: is it dead only from now on?
func (n *node) kill() bool {
	was := n.Dead
	n.Dead = true
	return !was
}

// isOf: is it the grant of a principal, as its subject or as its client?
func (n *node) isOf(principal string) bool {
	// An empty id is no client's, but that of nodes which have none.
	id, isClient := strings.CutPrefix(principal, clientPrefix)
	return n.Subject == principal || isClient && id != "" && n.Client == id
}

// told: a node that was found.
func told(n *node) (api.Node, bool) {
	if n == nil {
		return api.Node{}, false
	}
	return copied(n.Node), true
}

// copied: a node in memory of its own, its texts too.
func copied(n api.Node) api.Node {
	for _, s := range []*string{&n.Subject, &n.Client, &n.Audience, &n.Secret, &n.Data} {
		*s = strings.Clone(*s)
	}
	n.Scope, n.Actors = copiedList(n.Scope), copiedList(n.Actors)
	return n
}

func copiedList(l []string) []string {
	var c []string
	for _, s := range l {
		c = append(c, strings.Clone(s))
	}
	return c
}

// mayBe: as the chapter's words say.
func mayBe(n api.Node) bool {
	return n.Kind >= api.Session && n.Kind < api.Kinds && n.Parent >= 0 &&
		people.Principal(n.Subject) &&
		(n.Client == "" || people.Name(n.Client)) &&
		(n.Audience == "" || people.Text(n.Audience)) &&
		len(n.Scope) <= api.MaxScopes && all(n.Scope, people.Scope) && rise(n.Scope) &&
		isTime(n.Born) && isTime(n.Exp) &&
		len(n.Actors) <= api.MaxActors && all(n.Actors, people.Principal) &&
		n.Level >= 0 && n.Level <= maxLevel &&
		n.Secret != "" && len(n.Secret) <= maxSecret && len(n.Data) <= maxData
}

func isTime(now int) bool { return now >= 0 && now <= api.MaxTick }

func all(l []string, fits func(string) bool) bool {
	for _, s := range l {
		if !fits(s) {
			return false
		}
	}
	return true
}

// rise: is each text above the one ahead of it?
func rise(l []string) bool {
	for i := range l {
		if i > 0 && l[i] <= l[i-1] {
			return false
		}
	}
	return true
}
