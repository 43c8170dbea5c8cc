package store

import (
	"strings"

	"seneschal/api"
)

// Kinds of changes, as a byte tells them.
const (
	deletes = iota
	puts
)

// How many bytes tell the number of a record's changes, of an image's, of a key's bytes, of a value's.
const (
	recordCount = 2
	imageCount  = 4
	keySize     = 1
	valueSize   = 2
)

// change is a put of a pair, or a delete of its key, beside which there is no value.
type change struct {
	kind int
	api.Pair
}

// laid: a number as so many bytes, the highest first.
func laid(n, width int) string {
	b := make([]byte, width)
	for i := range b {
		b[width-1-i] = byte(n)
		n >>= 8
	}
	return string(b)
}

// bytesOf: those of changes; so many of them tell how many changes there are.
func bytesOf(changes []change, width int) string {
	var b strings.Builder
	b.WriteString(laid(len(changes), width))
	for _, c := range changes {
		b.WriteString(laid(c.kind, 1))
		b.WriteString(laid(len(c.Key), keySize))
		b.WriteString(c.Key)
		if c.kind == puts {
			b.WriteString(laid(len(c.Value), valueSize))
			b.WriteString(c.Value)
		}
	}
	return b.String()
}

// image: the bytes of all pairs.
func image(p pairs) string {
	if len(p.at) == 0 {
		return ""
	}
	return bytesOf(pairs{}.changesTo(p), imageCount)
}

// pairsOf: those that an image and the records behind it make; false, if they make none.
func pairsOf(image string, records []string) (pairs, bool) {
	p := noPairs()
	// Where nothing is there, all changes are puts: those of an image need no look of their own.
	if image != "" && !p.changeBy(image, imageCount, api.MaxKeys) {
		return pairs{}, false
	}
	for _, record := range records {
		if !p.changeBy(record, recordCount, api.MaxPairs) {
			return pairs{}, false
		}
	}
	return p, true
}

// changeBy makes the changes that bytes tell, so many at most; false, if they tell none that may be made, or the quota doesn't hold behind them.
func (p *pairs) changeBy(s string, width, most int) bool {
	r := reader{rest: s}
	n := r.number(width)
	if n < 1 || n > most {
		return false
	}
	last := ""
	for range n {
		c, ok := r.change()
		if !ok || c.Key <= last || !p.change(c) {
			return false
		}
		last = c.Key
	}
	return r.rest == "" && p.fit()
}

// reader takes one part of bytes behind the other. It is torn, once more was taken than there was.
type reader struct {
	rest string
	torn bool
}

func (r *reader) take(n int) string {
	if n > len(r.rest) {
		r.rest, r.torn = "", true
		return ""
	}
	s := r.rest[:n]
	r.rest = r.rest[n:]
	return s
}

func (r *reader) number(width int) int {
	n := 0
	for _, b := range []byte(r.take(width)) {
		n = n<<8 | int(b)
	}
	return n
}

// change: the next one; false, if none is there that may be.
func (r *reader) change() (change, bool) {
	c := change{kind: r.number(1)}
	c.Key = r.take(r.number(keySize))
	if c.kind == puts {
		c.Value = r.take(r.number(valueSize))
	}
	// A copy, for the pair is not to hold all the bytes.
	c.Pair = copied(c.Pair)
	return c, !r.torn && c.kind <= puts && isKey(c.Key) && isValue(c.Value)
}
