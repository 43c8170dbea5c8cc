package people

import (
	"slices"
	"strconv"
	"strings"

	"seneschal/api"
)

// How the keys of rows begin, and what stands between the two principals of a may's.
const (
	clientKey = "client/"
	groupKey  = "group/"
	mayRowKey = "may/"
	roleKey   = "role/"
	userKey   = "user/"
	between   = "|"
)

// The digits that are false and true.
const (
	no  = "0"
	yes = "1"
)

// flags: each as its digit.
func flags(on ...bool) string {
	s := ""
	for _, b := range on {
		if b {
			s += yes
		} else {
			s += no
		}
	}
	return s
}

// listed: a list, as it stands within a row.
func listed(l []string) []string {
	return slices.Concat([]string{strconv.Itoa(len(l))}, l)
}

func clientRow(c api.Client) api.Pair {
	texts := []string{c.Secret, flags(c.Code, c.Own, c.Refresh, c.Swap)}
	return api.Pair{Key: clientKey + c.Id, Value: Form(slices.Concat(texts, listed(c.Redirects), listed(c.Scopes)))}
}

func groupRow(g api.Group) api.Pair {
	texts := []string{strconv.Itoa(g.Version)}
	return api.Pair{Key: groupKey + g.Name, Value: Form(slices.Concat(texts, listed(g.Users), listed(g.Subs), listed(g.Roles)))}
}

func mayRow(m api.May) api.Pair {
	return api.Pair{Key: mayRowKey + m.Actor + between + m.Subject}
}

func roleRow(r api.Role) api.Pair {
	return api.Pair{Key: roleKey + r.Name, Value: Form(listed(r.Scopes))}
}

func userRow(u api.User) api.Pair {
	return api.Pair{Key: userKey + u.Name, Value: Form([]string{u.Mail, flags(u.Active), strconv.Itoa(u.Version)})}
}

// reader takes one text of a row behind the other. What is not there, or is none, is the zero value.
type reader struct{ rest []string }

func (r *reader) text() string {
	if len(r.rest) == 0 {
		return ""
	}
	s := r.rest[0]
	r.rest = r.rest[1:]
	return s
}

func (r *reader) number() int {
	n, ok := number(r.text())
	if !ok {
		return 0
	}
	return n
}

func (r *reader) list() []string {
	n := min(r.number(), len(r.rest))
	l := r.rest[:n]
	r.rest = r.rest[n:]
	return l
}

// laying: what is done with each row whose key begins so: the rest of its key, and its texts.
type laying struct {
	key string
	lay func(p *People, name string, r *reader) bool
}

// lay makes the calls that make such rows, where there is nobody yet; false, if one of them is refused.
func (p *People) lay(rows []api.Pair) bool {
	// A row may name what comes behind it: first there are the things, then who is in what.
	for _, l := range []laying{
		{clientKey, (*People).layClient},
		{roleKey, (*People).layRole},
		{userKey, (*People).layUser},
		{groupKey, (*People).layGroup},
		{groupKey, (*People).layLists},
		{mayRowKey, (*People).layMay},
	} {
		for _, row := range rows {
			name, ok := strings.CutPrefix(row.Key, l.key)
			if !ok {
				continue
			}
			texts, ok := Texts(row.Value)
			if !ok || !l.lay(p, name, &reader{texts}) {
				return false
			}
		}
	}
	return true
}

func (p *People) layClient(id string, r *reader) bool {
	c := api.Client{Id: id, Secret: r.text()}
	on := r.text()
	for i, flag := range []*bool{&c.Code, &c.Own, &c.Refresh, &c.Swap} {
		*flag = strings.HasPrefix(on[min(i, len(on)):], yes)
	}
	c.Redirects, c.Scopes = r.list(), r.list()
	return p.PutClient(c) == api.OK
}

func (p *People) layRole(name string, r *reader) bool {
	return p.PutRole(api.Role{Name: name, Scopes: r.list()}) == api.OK
}

func (p *People) layUser(name string, r *reader) bool {
	if p.AddUser(name, r.text()) != api.OK {
		return false
	}
	u := p.users[name]
	u.Active, u.Version = r.text() == yes, r.number()
	p.putUser(u)
	return isVersion(u.Version)
}

func (p *People) layGroup(name string, _ *reader) bool { return p.AddGroup(name) == api.OK }

// layLists: what is in a group that is there.
func (p *People) layLists(name string, r *reader) bool {
	version := r.number()
	for _, enter := range []func(p *People, group, name string) api.Errno{(*People).Join, (*People).Nest, (*People).Give} {
		for _, s := range r.list() {
			if enter(p, name, s) != api.OK {
				return false
			}
		}
	}
	g := p.groups[name]
	g.Version = version
	p.putGroup(g)
	return isVersion(version)
}

func (p *People) layMay(key string, _ *reader) bool {
	actor, subject, _ := strings.Cut(key, between)
	return p.Allow(actor, subject) == api.OK
}

func isVersion(n int) bool { return n >= 1 && n <= api.MaxTick }
