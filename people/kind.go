package people

import "seneschal/api"

// kind of things: whether a text may name one, whether there is one of that name, and whether there is no room for more.
type kind struct {
	fits, there func(name string) bool
	full        bool
}

func kindOf[V any](m map[string]V, most int) kind {
	return kind{
		fits:  Name,
		there: func(name string) bool { return has(m, name) },
		full:  len(m) >= most,
	}
}

// thing is one that a call names.
type thing struct {
	kind
	name string
}

func (p *People) user(name string) thing { return thing{kindOf(p.users, api.MaxUsers), name} }

func (p *People) group(name string) thing { return thing{kindOf(p.groups, api.MaxGroups), name} }

func (p *People) role(name string) thing { return thing{kindOf(p.roles, api.MaxRoles), name} }

func (p *People) client(id string) thing { return thing{kindOf(p.clients, api.MaxClients), id} }

func (p *People) principal(s string) thing {
	return thing{kind{fits: Principal, there: p.isThere}, s}
}

// missing: the error, if one of the things that must be there is not.
func missing(things ...thing) api.Errno {
	for _, t := range things {
		if !t.fits(t.name) {
			return api.ErrPeopleName
		}
	}
	for _, t := range things {
		if !t.there(t.name) {
			return api.ErrPeopleNone
		}
	}
	return api.OK
}

// taken: the error, if a thing that is to come anew may not.
func taken(t thing) api.Errno {
	switch {
	case !t.fits(t.name):
		return api.ErrPeopleName
	case t.there(t.name):
		return api.ErrPeopleThere
	case t.full:
		return api.ErrPeopleFull
	}
	return api.OK
}

// mayKey: by which a may lies. A blank is below all bytes of a principal: they rise by the actor, then by the subject.
func mayKey(actor, subject string) string { return actor + " " + subject }

// roleMayBe, clientMayBe: as the chapter's words say.
func roleMayBe(r api.Role) bool {
	return Name(r.Name) && rise(r.Scopes, Scope)
}

func clientMayBe(c api.Client) bool {
	return Name(c.Id) && (c.Secret == "" || len(c.Secret) == sizeSecret && isMade(c.Secret, sizeSecret, ofHex)) &&
		rise(c.Redirects, Text) && rise(c.Scopes, Scope)
}

// rise: is a list no longer than one of a role or of a client, and do its texts rise, and may each of them be?
func rise(l []string, fits func(string) bool) bool {
	if len(l) > api.MaxScopes {
		return false
	}
	for i, s := range l {
		if !fits(s) || i > 0 && s <= l[i-1] {
			return false
		}
	}
	return true
}
