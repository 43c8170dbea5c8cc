package people

import (
	"maps"
	"slices"
	"strings"

	"seneschal/api"
)

// set of names.
type set map[string]struct{}

// names: those that a map has, rising.
func names[V any](m map[string]V) []string { return slices.Sorted(maps.Keys(m)) }

// rising: what a map has, told one by one by its rising names.
func rising[V, T any](m map[string]V, tell func(V) T) []T {
	var l []T
	for _, name := range names(m) {
		l = append(l, tell(m[name]))
	}
	return l
}

// has: does a map have a name?
func has[V any](m map[string]V, name string) bool {
	_, ok := m[name]
	return ok
}

// found: what a map has by a name, copied.
func found[V any](m map[string]V, name string, copied func(V) V) (V, bool) {
	v, ok := m[name]
	return copied(v), ok
}

// stands: is a text in a list that rises?
func stands(l []string, s string) bool {
	_, ok := slices.BinarySearch(l, s)
	return ok
}

// copied: a list in memory of its own, its texts too; so are the things that are told, or kept.
func copied(l []string) []string {
	var c []string
	for _, s := range l {
		c = append(c, strings.Clone(s))
	}
	return c
}

func copiedUser(u api.User) api.User {
	u.Name, u.Mail = strings.Clone(u.Name), strings.Clone(u.Mail)
	return u
}

func copiedGroup(g api.Group) api.Group {
	g.Name = strings.Clone(g.Name)
	g.Users, g.Subs, g.Roles = copied(g.Users), copied(g.Subs), copied(g.Roles)
	return g
}

func copiedRole(r api.Role) api.Role {
	r.Name, r.Scopes = strings.Clone(r.Name), copied(r.Scopes)
	return r
}

func copiedClient(c api.Client) api.Client {
	c.Id, c.Secret = strings.Clone(c.Id), strings.Clone(c.Secret)
	c.Redirects, c.Scopes = copied(c.Redirects), copied(c.Scopes)
	return c
}

func copiedMay(m api.May) api.May {
	return api.May{Actor: strings.Clone(m.Actor), Subject: strings.Clone(m.Subject)}
}
