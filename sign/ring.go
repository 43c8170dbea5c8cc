package sign

import (
	"slices"
	"strings"
	"sync"

	"seneschal/api"
	"seneschal/codec"
	"seneschal/field"
	"seneschal/hash"
)

// What keys the macs of a seed.
const (
	forKid     = "kid"
	forMac     = "mac"
	forPrivate = "key"
)

// sizeKid: the bytes of a name, ahead of base64url.
const sizeKid = 9

// key is one of a ring. But for its public point nothing of it ever changes.
type key struct {
	seed, kid, mac string
	private        api.Num
	once           sync.Once
	public         api.Point
}

// newKey: the key of a seed.
func newKey(seed string) *key {
	return &key{
		seed:    strings.Clone(seed),
		kid:     codec.Base64(hash.Mac(forKid, seed)[:sizeKid]),
		mac:     hash.Mac(forMac, seed),
		private: privateKey(hash.Mac(forPrivate, seed)),
	}
}

// privateKey: the one that bytes tell.
func privateKey(s string) api.Num {
	d := field.Reduce(modN, s)
	if d == (api.Num{}) {
		return api.Num{1}
	}
	return d
}

// point: the public key.
func (k *key) point() api.Point {
	// Made when it is first asked for: a multiple takes long, and not every key is asked.
	k.once.Do(func() { k.public = timesBase(k.private) })
	return k.public
}

// Ring has keys, the newest one last.
type Ring struct{ keys []*key }

// NewRing: with one key.
func NewRing(seed string) *Ring { return &Ring{[]*key{newKey(seed)}} }

// Turn: a key more, the newest now.
func (r *Ring) Turn(seed string) api.Errno {
	k := newKey(seed)
	if r.find(k.kid) != nil {
		return api.ErrSignKey
	}
	if len(r.keys) == api.MaxRing {
		return api.ErrSignFull
	}
	r.keys = append(r.keys, k)
	return api.OK
}

// Kids: the names, the oldest first.
func (r *Ring) Kids() []string { return r.each(func(k *key) string { return k.kid }) }

// Seeds: the seeds, the oldest first.
func (r *Ring) Seeds() []string { return r.each(func(k *key) string { return k.seed }) }

// Clone: another ring with the same keys.
func (r *Ring) Clone() *Ring {
	// The keys themselves are shared, so that a point is made once for all clones.
	return &Ring{slices.Clone(r.keys)}
}

// Mac: the newest key's name, and its mac of bytes.
func (r *Ring) Mac(s string) (kid, mac string) {
	k := r.newest()
	return strings.Clone(k.kid), hash.Mac(k.mac, s)
}

// Vouch: is that the mac of bytes by a key?
func (r *Ring) Vouch(kid, s, mac string) bool {
	k := r.find(kid)
	return k != nil && hash.Same(hash.Mac(k.mac, s), mac)
}

// Sign: the newest key's name, and its signature of bytes.
func (r *Ring) Sign(s string) (kid, sig string, e api.Errno) {
	k := r.newest()
	sig, e = Sign(k.private, s)
	if e != api.OK {
		return "", "", e
	}
	return strings.Clone(k.kid), sig, api.OK
}

// Verify: is that a signature of bytes by a key?
func (r *Ring) Verify(kid, s, sig string) bool {
	k := r.find(kid)
	return k != nil && Verify(k.point(), s, sig)
}

// Public: a key's public point.
func (r *Ring) Public(kid string) (api.Point, bool) {
	k := r.find(kid)
	if k == nil {
		return api.Point{}, false
	}
	return k.point(), true
}

// newest: the one that signs.
func (r *Ring) newest() *key { return r.keys[len(r.keys)-1] }

// find: the key of a name, or nil.
func (r *Ring) find(kid string) *key {
	for _, k := range r.keys {
		if k.kid == kid {
			return k
		}
	}
	return nil
}

// each: a text of each key, copied.
func (r *Ring) each(text func(*key) string) []string {
	l := make([]string, 0, len(r.keys))
	for _, k := range r.keys {
		l = append(l, strings.Clone(text(k)))
	}
	return l
}
