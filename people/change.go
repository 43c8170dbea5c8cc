package people

import (
	"maps"

	"seneschal/api"
)

func (p *People) AddUser(name, mail string) api.Errno {
	if !Text(mail) {
		return api.ErrPeopleName
	}
	if e := taken(p.user(name)); e != api.OK {
		return e
	}
	p.putUser(api.User{Name: name, Mail: mail, Active: true, Version: 1})
	return api.OK
}

func (p *People) SetMail(name, mail string) api.Errno {
	if !Text(mail) {
		return api.ErrPeopleName
	}
	return p.setUser(name, func(u *api.User) { u.Mail = mail })
}

func (p *People) SetActive(name string, on bool) api.Errno {
	return p.setUser(name, func(u *api.User) { u.Active = on })
}

func (p *People) DropUser(name string) api.Errno {
	if e := missing(p.user(name)); e != api.OK {
		return e
	}
	delete(p.users, name)
	p.leaveAll(p.usersOf(), name)
	p.denyAll(userPrefix + name)
	return api.OK
}

func (p *People) AddGroup(name string) api.Errno {
	if e := taken(p.group(name)); e != api.OK {
		return e
	}
	p.putGroup(api.Group{Name: name, Version: 1})
	return api.OK
}

func (p *People) DropGroup(name string) api.Errno {
	if e := missing(p.group(name)); e != api.OK {
		return e
	}
	delete(p.groups, name)
	p.leaveAll(p.subsOf(), name)
	return api.OK
}

// Join and Leave: a user of a group; Nest and Unnest: a group in it; Give and Take: a role of it.
func (p *People) Join(group, user string) api.Errno { return p.enter(p.usersOf(), group, user) }

func (p *People) Leave(group, user string) api.Errno { return p.leave(p.usersOf(), group, user) }

func (p *People) Nest(group, sub string) api.Errno {
	if e := missing(p.group(group), p.group(sub)); e != api.OK {
		return e
	}
	// One that stands among the subs already is never above the group, so that this may be asked first.
	above := set{}
	p.climb(group, above)
	if has(above, sub) {
		return api.ErrPeopleLoop
	}
	return p.enter(p.subsOf(), group, sub)
}

func (p *People) Unnest(group, sub string) api.Errno { return p.leave(p.subsOf(), group, sub) }

func (p *People) Give(group, role string) api.Errno { return p.enter(p.rolesOf(), group, role) }

func (p *People) Take(group, role string) api.Errno { return p.leave(p.rolesOf(), group, role) }

// PutRole and PutClient make one, or make it anew.
func (p *People) PutRole(r api.Role) api.Errno {
	t := p.role(r.Name)
	switch {
	case !roleMayBe(r):
		return api.ErrPeopleName
	case t.full && !t.there(t.name):
		return api.ErrPeopleFull
	}
	r = copiedRole(r)
	p.roles[r.Name] = r
	return api.OK
}

func (p *People) DropRole(name string) api.Errno {
	if e := missing(p.role(name)); e != api.OK {
		return e
	}
	delete(p.roles, name)
	p.leaveAll(p.rolesOf(), name)
	return api.OK
}

func (p *People) PutClient(c api.Client) api.Errno {
	t := p.client(c.Id)
	switch {
	case !clientMayBe(c):
		return api.ErrPeopleName
	case t.full && !t.there(t.name):
		return api.ErrPeopleFull
	}
	c = copiedClient(c)
	p.clients[c.Id] = c
	return api.OK
}

func (p *People) DropClient(id string) api.Errno {
	if e := missing(p.client(id)); e != api.OK {
		return e
	}
	delete(p.clients, id)
	p.denyAll(clientPrefix + id)
	return api.OK
}

// Allow lets an actor act for a subject; Deny takes it back.
func (p *People) Allow(actor, subject string) api.Errno {
	if e := missing(p.principal(actor), p.principal(subject)); e != api.OK {
		return e
	}
	key := mayKey(actor, subject)
	switch {
	case has(p.mays, key):
		return api.ErrPeopleThere
	case len(p.mays) >= api.MaxMay:
		return api.ErrPeopleFull
	}
	p.mays[key] = copiedMay(api.May{Actor: actor, Subject: subject})
	return api.OK
}

func (p *People) Deny(actor, subject string) api.Errno {
	if e := missing(p.principal(actor), p.principal(subject)); e != api.OK {
		return e
	}
	if !p.May(actor, subject) {
		return api.ErrPeopleNone
	}
	delete(p.mays, mayKey(actor, subject))
	return api.OK
}

// denyAll: no may has that principal any more.
func (p *People) denyAll(principal string) {
	maps.DeleteFunc(p.mays, func(_ string, m api.May) bool {
		return m.Actor == principal || m.Subject == principal
	})
}

// putUser and putGroup lay one in the place of the one of its name, as its own memory.
func (p *People) putUser(u api.User) {
	u = copiedUser(u)
	p.users[u.Name] = u
}

func (p *People) putGroup(g api.Group) {
	g = copiedGroup(g)
	p.groups[g.Name] = g
}

// setUser does something to a user, who has another version then, if it is another one.
func (p *People) setUser(name string, do func(*api.User)) api.Errno {
	if e := missing(p.user(name)); e != api.OK {
		return e
	}
	u := p.users[name]
	do(&u)
	if u != p.users[name] {
		u.Version++
		p.putUser(u)
	}
	return api.OK
}
