package login

import (
	"slices"
	"strings"

	"seneschal/api"
	"seneschal/hash"
	"seneschal/people"
)

// How many bytes they have: a password at most, a salt, what is stretched of both, a secret of codes at least and at most, a passkey's Id at most, its X and its Y.
const (
	maxPass   = 64
	sizeSalt  = 16
	sizeHash  = 32
	minSecret = 16
	maxSecret = 64
	maxId     = 86
	sizeXY    = 32
)

// The greatest counter of a passkey, and the greatest Step and Until.
const (
	maxCount = 1<<32 - 1
	maxLater = 1 << 41
)

// kept of a user. It embeds its credential, whose texts and lists are nobody else's.
type kept struct{ api.Credential }

// has: is a text the password?
func (c *kept) has(pass string) bool {
	return isPass(pass) && hash.Same(stretched(pass, c.Salt), c.Hash)
}

// fail counts a wrong password, and locks if it is one too many.
func (c *kept) fail(now int) {
	c.Fails++
	if c.Fails == api.MaxFails {
		c.Fails, c.Until = 0, now+api.LockTicks
	}
}

// place of the passkey of an Id; -1, if there is none.
func (c *kept) place(id string) int {
	return slices.IndexFunc(c.Keys, func(k api.Key) bool { return k.Id == id })
}

// told: the credential, in memory of its own.
func (c *kept) told() api.Credential {
	other := c.Credential
	for _, s := range []*string{&other.User, &other.Salt, &other.Hash, &other.Otp} {
		*s = strings.Clone(*s)
	}
	other.Keys = nil
	for _, k := range c.Keys {
		other.Keys = append(other.Keys, copiedKey(k))
	}
	return other
}

// mayBe: as rows may tell it.
func (c *kept) mayBe() bool {
	return people.Name(c.User) && isSalt(c.Salt) && len(c.Hash) == sizeHash &&
		(c.Otp == "" || isSecret(c.Otp)) &&
		isUpTo(c.Step, maxLater) && isUpTo(c.Fails, api.MaxFails-1) && isUpTo(c.Until, maxLater) &&
		c.keysMayBe()
}

func (c *kept) keysMayBe() bool {
	for i, k := range c.Keys {
		if !keyMayBe(k) || c.place(k.Id) != i {
			return false
		}
	}
	return len(c.Keys) <= api.MaxKeysOf
}

func keyMayBe(k api.Key) bool {
	return k.Id != "" && len(k.Id) <= maxId && len(k.X) == sizeXY && len(k.Y) == sizeXY && isUpTo(k.Count, maxCount)
}

func copiedKey(k api.Key) api.Key {
	return api.Key{Id: strings.Clone(k.Id), X: strings.Clone(k.X), Y: strings.Clone(k.Y), Count: k.Count}
}

// stretched: what is kept of a password.
func stretched(pass, salt string) string {
	// No error: so many rounds and bytes may be.
	s, _ := hash.Stretch(pass, salt, api.Rounds, sizeHash)
	return s
}

func isPass(s string) bool { return s != "" && len(s) <= maxPass }

func isSalt(s string) bool { return len(s) == sizeSalt }

func isSecret(s string) bool { return len(s) >= minSecret && len(s) <= maxSecret }

func isUpTo(n, most int) bool { return n >= 0 && n <= most }
