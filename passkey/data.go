package passkey

import (
	"strings"

	"seneschal/api"
	"seneschal/codec"
	"seneschal/hash"
)

// How many bytes they have: the sum of an origin, the count, and all up to it; of what stands behind in a key's data, those that may be any, and the length of the id.
const (
	sizeSum    = 32
	sizeCount  = 4
	sizeData   = sizeSum + 1 + sizeCount
	sizeAny    = 16
	sizeLength = 2
)

// Flags: somebody is there; a key stands behind; extensions do.
const (
	flagThere = 1
	flagKey   = 64
	flagMore  = 128
)

// authData: authenticator data, with what stands behind the count.
type authData struct {
	sum    string
	flags  byte
	count  int
	behind string
}

// print tells its bytes.
func (d authData) print() string {
	return d.sum + string([]byte{d.flags}) + bigEnd(d.count, sizeCount) + d.behind
}

// read takes it from bytes.
func (d *authData) read(s string) api.Errno {
	if len(s) < sizeData {
		return api.ErrPasskeyText
	}
	*d = authData{s[:sizeSum], s[sizeSum], fromBigEnd(s[sizeSum+1 : sizeData]), s[sizeData:]}
	return api.OK
}

func (d authData) has(flag byte) bool { return d.flags&flag != 0 }

func (d authData) isOf(origin string) bool { return d.sum == hash.Sum(origin) }

// key: the passkey whose data it is.
func (d authData) key() (api.Key, api.Errno) {
	if len(d.behind) < sizeAny+sizeLength {
		return api.Key{}, api.ErrPasskeyText
	}
	size := fromBigEnd(d.behind[sizeAny : sizeAny+sizeLength])
	rest := d.behind[sizeAny+sizeLength:]
	if size > len(rest) {
		return api.Key{}, api.ErrPasskeyText
	}
	x, y, e := xyOf(rest[size:])
	k := api.Key{Id: codec.Base64(rest[:size]), X: x, Y: y, Count: d.count}
	// What its id and its point must be is just what those of any passkey must.
	if e != api.OK || Check(k) != api.OK {
		return api.Key{}, api.ErrPasskeyText
	}
	return k, api.OK
}

// keyBehind: what stands behind the count in the data of a key, as an authenticator says it.
func keyBehind(id, public string) string {
	return strings.Repeat("\x00", sizeAny) + bigEnd(len(id), sizeLength) + id + public
}

// bigEnd: a number as so many bytes, the highest first.
func bigEnd(n, size int) string {
	var b []byte
	for i := range size {
		b = append(b, byte(n>>(8*(size-1-i))))
	}
	return string(b)
}

// fromBigEnd: the number of bytes, the highest first.
func fromBigEnd(s string) int {
	n := 0
	for i := range len(s) {
		n = n<<8 | int(s[i])
	}
	return n
}
