package people

import (
	"slices"

	"seneschal/api"
)

// list of a group: where it stands, and the things that may be in it.
type list struct {
	of    func(*api.Group) *[]string
	thing func(name string) thing
}

func (p *People) usersOf() list {
	return list{func(g *api.Group) *[]string { return &g.Users }, p.user}
}

func (p *People) subsOf() list {
	return list{func(g *api.Group) *[]string { return &g.Subs }, p.group}
}

func (p *People) rolesOf() list {
	return list{func(g *api.Group) *[]string { return &g.Roles }, p.role}
}

// enter puts a thing into that list of a group; leave takes it out of there.
func (p *People) enter(l list, group, name string) api.Errno {
	if e := missing(p.group(group), l.thing(name)); e != api.OK {
		return e
	}
	g := p.groups[group]
	old := *l.of(&g)
	at, ok := slices.BinarySearch(old, name)
	if ok {
		return api.ErrPeopleThere
	}
	p.turn(g, l, slices.Concat(old[:at], []string{name}, old[at:]))
	return api.OK
}

func (p *People) leave(l list, group, name string) api.Errno {
	if e := missing(p.group(group), l.thing(name)); e != api.OK {
		return e
	}
	if !p.takeOut(l, group, name) {
		return api.ErrPeopleNone
	}
	return api.OK
}

// leaveAll: a name stands in that list of no group any more.
func (p *People) leaveAll(l list, name string) {
	for _, group := range names(p.groups) {
		p.takeOut(l, group, name)
	}
}

// takeOut takes a name out of that list of a group; false, if it isn't there.
func (p *People) takeOut(l list, group, name string) bool {
	g := p.groups[group]
	old := *l.of(&g)
	at, ok := slices.BinarySearch(old, name)
	if ok {
		p.turn(g, l, slices.Concat(old[:at], old[at+1:]))
	}
	return ok
}

// turn puts a group with another list in its place, as its next version.
func (p *People) turn(g api.Group, l list, names []string) {
	*l.of(&g) = names
	g.Version++
	p.putGroup(g)
}
