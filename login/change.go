package login

import (
	"strings"

	"seneschal/api"
	"seneschal/otp"
	"seneschal/people"
)

// Set gives a user a password; Drop takes all away that a user has.
func (l *Login) Set(user, salt, pass string) api.Errno {
	_, there := l.users[user]
	switch {
	case !people.Name(user) || !isSalt(salt) || !isPass(pass):
		return api.ErrLoginForm
	case !there && len(l.users) >= api.MaxUsers:
		return api.ErrLoginFull
	case !there:
		l.put(kept{api.Credential{User: strings.Clone(user)}})
	}
	return l.with(user, func(c *kept) api.Errno {
		c.Salt, c.Hash = strings.Clone(salt), stretched(pass, salt)
		c.Fails, c.Until = 0, 0
		return api.OK
	})
}

func (l *Login) Drop(user string) api.Errno {
	return l.with(user, func(c *kept) api.Errno {
		delete(l.users, c.User)
		return api.OK
	})
}

// Check checks a password.
func (l *Login) Check(user, pass string, now int) api.Errno {
	return l.withAt(user, now, func(c *kept) api.Errno {
		switch {
		case now < c.Until:
			return api.ErrLoginLocked
		case !c.has(pass):
			c.fail(now)
			return api.ErrLoginPass
		}
		c.Fails, c.Until = 0, 0
		return api.OK
	})
}

// Enrol gives a user a secret of codes; Code checks one.
func (l *Login) Enrol(user, secret string) api.Errno {
	return l.with(user, func(c *kept) api.Errno {
		if !isSecret(secret) {
			return api.ErrLoginForm
		}
		c.Otp, c.Step = strings.Clone(secret), 0
		return api.OK
	})
}

func (l *Login) Code(user, code string, now int) api.Errno {
	return l.withAt(user, now, func(c *kept) api.Errno {
		if c.Otp == "" {
			return api.ErrLoginNone
		}
		step, ok := otp.Find(c.Otp, code, now/api.OtpTicks, api.OtpWindow)
		if !ok || step < c.Step {
			return api.ErrLoginCode
		}
		// Who overhears a code can't take it once more, nor an earlier one.
		c.Step = step + 1
		return api.OK
	})
}

// AddKey gives a user a passkey; Count notes its counter.
func (l *Login) AddKey(user string, k api.Key) api.Errno {
	return l.with(user, func(c *kept) api.Errno {
		switch {
		case !keyMayBe(k) || c.place(k.Id) >= 0:
			return api.ErrLoginForm
		case len(c.Keys) >= api.MaxKeysOf:
			return api.ErrLoginFull
		}
		c.Keys = append(c.Keys, copiedKey(k))
		return api.OK
	})
}

func (l *Login) Count(user, id string, count int) api.Errno {
	return l.withKey(user, id, func(k *api.Key) api.Errno {
		// An authenticator that doesn't count says 0 each time.
		still := count == 0 && k.Count == 0
		if count > maxCount || count <= k.Count && !still {
			return api.ErrLoginCode
		}
		k.Count = count
		return api.OK
	})
}
