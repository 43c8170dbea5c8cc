package cbor

import (
	"math"
	"strings"
	"unicode/utf8"

	"seneschal/api"
)

// reader goes through bytes from the left, and gives up by a panic of the error at the first part that is wrong.
type reader struct {
	s     string
	at    int
	outer int // within how many lists and maps the next part stands
}

// Decode: the item with which bytes begin, and how many it has.
func Decode(s string) (v api.Cbor, n int, e api.Errno) {
	if len(s) > api.MaxCbor {
		return api.Cbor{}, 0, api.ErrCborLong
	}
	defer func() {
		if fault := recover(); fault != nil {
			v, n, e = api.Cbor{}, 0, fault.(api.Errno)
		}
	}()
	r := &reader{s: s}
	v = r.item()
	return v, r.at, api.OK
}

// must gives up, if what is read isn't as it has to be.
func must(ok bool) {
	if !ok {
		panic(api.ErrCborText)
	}
}

// take: the next n bytes.
func (r *reader) take(n int) string {
	must(n <= len(r.s)-r.at)
	r.at += n
	return r.s[r.at-n : r.at]
}

// item: the one whose bytes stand next.
func (r *reader) item() api.Cbor {
	kind, n := r.head()
	read := r.part(kind)
	return read(n)
}

// part: what reads on behind a head of a kind's number, given its n.
func (r *reader) part(kind int) func(n int) api.Cbor {
	switch kind {
	case kindAbove:
		return r.above
	case kindBelow:
		return r.below
	case kindBytes:
		return r.bytes
	case kindText:
		return r.text
	case kindList:
		return r.list
	case kindMap:
		return r.pairs
	}
	panic(api.ErrCborText)
}

// head: the kind's number and the n of the one that stands next.
func (r *reader) head() (int, int) {
	from := r.at
	first := int(r.take(1)[0])
	kind, low := first>>5, first&31
	if low < oneByte {
		return kind, low
	}
	must(low <= eightBytes)
	bits := uint64(0)
	for _, c := range []byte(r.take(1 << (low - oneByte))) {
		bits = bits<<8 | uint64(c)
	}
	must(bits <= math.MaxInt)
	n := int(bits)
	// There is one head of a number: a longer one is none.
	must(r.s[from:r.at] == head(kind, n))
	return kind, n
}

func (r *reader) above(n int) api.Cbor { return api.Cbor{Kind: api.CborInt, Num: n} }

func (r *reader) below(n int) api.Cbor { return api.Cbor{Kind: api.CborInt, Num: -1 - n} }

func (r *reader) bytes(n int) api.Cbor {
	// A copy, for the answer is not to hold the whole of s.
	return api.Cbor{Kind: api.CborBytes, Text: strings.Clone(r.take(n))}
}

func (r *reader) text(n int) api.Cbor {
	s := r.take(n)
	must(utf8.ValidString(s))
	return api.Cbor{Kind: api.CborText, Text: strings.Clone(s)}
}

// enter gives up, if a list or a map stands too deep.
func (r *reader) enter() {
	if r.outer >= api.MaxDepth {
		panic(api.ErrCborDeep)
	}
	r.outer++
}

func (r *reader) list(n int) api.Cbor {
	r.enter()
	v := api.Cbor{Kind: api.CborList}
	// An n that nothing stands behind ends with the bytes: no room is laid for it ahead of them.
	for range n {
		v.List = append(v.List, r.item())
	}
	r.outer--
	return v
}

func (r *reader) pairs(n int) api.Cbor {
	r.enter()
	v := api.Cbor{Kind: api.CborMap}
	last := "" // ahead of all keys' bytes
	for range n {
		from := r.at
		key := r.item()
		// Not at its head: what is wrong within a key comes first.
		must(isKey(key) && last < r.s[from:r.at])
		last = r.s[from:r.at]
		v.List = append(v.List, key, r.item())
	}
	r.outer--
	return v
}
