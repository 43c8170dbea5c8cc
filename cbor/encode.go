package cbor

import (
	"strings"

	"seneschal/api"
)

// The kinds' numbers in heads.
const (
	kindAbove = iota // a number from 0 on
	kindBelow        // a number below 0
	kindBytes
	kindText
	kindList
	kindMap
)

// What the first byte of a head has beside the kind's number: an n below oneByte is itself, the others say how many bytes n has behind it.
const (
	oneByte    = 24
	eightBytes = 27
)

// writer puts bytes together, and gives up by a panic of the error as soon as they are too many.
type writer struct {
	b strings.Builder
}

// Encode: its bytes.
func Encode(v api.Cbor) (s string, e api.Errno) {
	if e := Check(v); e != api.OK {
		return "", e
	}
	defer func() {
		if fault := recover(); fault != nil {
			s, e = "", fault.(api.Errno)
		}
	}()
	var w writer
	w.item(v)
	return w.b.String(), api.OK
}

// put: more of the bytes.
func (w *writer) put(s string) {
	if len(s) > api.MaxCbor-w.b.Len() {
		panic(api.ErrCborLong)
	}
	w.b.WriteString(s)
}

// item: the bytes of one that may be.
func (w *writer) item(v api.Cbor) {
	w.put(headOf(v))
	// One that may be has a text, or elements, only where its bytes have them.
	w.put(v.Text)
	for _, x := range v.List {
		w.item(x)
	}
}

// headOf: the head of an item of one of the kinds.
func headOf(v api.Cbor) string {
	switch v.Kind {
	case api.CborInt:
		if v.Num < 0 {
			return head(kindBelow, -1-v.Num)
		}
		return head(kindAbove, v.Num)
	case api.CborBytes:
		return head(kindBytes, len(v.Text))
	case api.CborText:
		return head(kindText, len(v.Text))
	case api.CborList:
		return head(kindList, len(v.List))
	}
	return head(kindMap, len(v.List)/2)
}

// head: that of a kind's number and an n.
func head(kind, n int) string {
	first := byte(kind << 5)
	if n < oneByte {
		return string([]byte{first + byte(n)})
	}
	size := 1
	for first += oneByte; size < 8 && n>>(8*size) > 0; size *= 2 {
		first++
	}
	b := []byte{first}
	for i := range size {
		b = append(b, byte(n>>(8*(size-1-i))))
	}
	return string(b)
}
