package sign

import (
	"iter"
	"strings"

	"seneschal/api"
	"seneschal/field"
	"seneschal/hash"
)

// What stands behind V in what turns a chain: at the beginning, and before each nonce but the first; and at the beginning once more.
const (
	markFirst  = "\x00"
	markSecond = "\x01"
)

// chain is what nonces are drawn from: the K and the V of the chapter.
type chain struct{ k, v string }

// newChain: that of a private key and a sum.
func newChain(d, e api.Num) *chain {
	c := &chain{strings.Repeat("\x00", sizeNum), strings.Repeat("\x01", sizeNum)}
	seed := field.Bytes(d) + field.Bytes(e)
	c.turn(markFirst + seed)
	c.turn(markSecond + seed)
	return c
}

// turn: K is another one, and V by it.
func (c *chain) turn(behind string) {
	c.k = hash.Mac(c.k, c.v+behind)
	c.next()
}

// next: the V by the same K.
func (c *chain) next() string {
	c.v = hash.Mac(c.k, c.v)
	return c.v
}

// nonces: those of a private key and a sum, among as many V as are looked at.
func nonces(d, e api.Num) iter.Seq[api.Num] {
	return func(yield func(api.Num) bool) {
		c := newChain(d, e)
		for range api.MaxNonces {
			k, ok := number(c.next())
			if ok && !yield(k) {
				return
			}
			c.turn(markFirst)
		}
	}
}
