package cbor_test

import (
	"encoding/binary"
	"encoding/hex"
	"fmt"
	"math"
	"math/rand"
	"slices"
	"strings"
	"testing"
	"unicode/utf8"

	"seneschal/api"
	"seneschal/cbor"
)

func number(n int) api.Cbor { return api.Cbor{Kind: api.CborInt, Num: n} }

func octets(s string) api.Cbor { return api.Cbor{Kind: api.CborBytes, Text: s} }

func text(s string) api.Cbor { return api.Cbor{Kind: api.CborText, Text: s} }

func list(l ...api.Cbor) api.Cbor { return api.Cbor{Kind: api.CborList, List: l} }

func pairs(l ...api.Cbor) api.Cbor { return api.Cbor{Kind: api.CborMap, List: l} }

// within: v in n lists and maps, by turns, the innermost a list.
func within(n int, v api.Cbor) api.Cbor {
	for i := range n {
		if i%2 == 0 {
			v = list(v)
		} else {
			v = pairs(text("k"), v)
		}
	}
	return v
}

// bytesOf: those that are written in base sixteen, with blanks.
func bytesOf(digits string) string {
	b, err := hex.DecodeString(strings.ReplaceAll(digits, " ", ""))
	if err != nil {
		panic(err)
	}
	return string(b)
}

// same: are they one item? A nil list and an empty one are the same.
func same(a, b api.Cbor) bool {
	return a.Kind == b.Kind && a.Num == b.Num && a.Text == b.Text && slices.EqualFunc(a.List, b.List, same)
}

// isNone: has an item that stands beside an error, or a false, nothing in it?
func isNone(v api.Cbor) bool {
	return v.Kind == 0 && v.Num == 0 && v.Text == "" && len(v.List) == 0
}

// told: the beginning of an item as a test that fails tells it, texts and numbers in base sixteen.
func told(v api.Cbor) string {
	s := fmt.Sprintf("%x", v)
	return s[:min(len(s), 200)]
}

// checks: Check answers want of v.
func checks(t *testing.T, v api.Cbor, want api.Errno) {
	t.Helper()
	if e := cbor.Check(v); e != want {
		t.Errorf("%s: %d; want %d", told(v), e, want)
	}
}

// keeps: Encode answers nothing for v but the error want.
func keeps(t *testing.T, v api.Cbor, want api.Errno) {
	t.Helper()
	if s, e := cbor.Encode(v); s != "" || e != want {
		t.Errorf("%s: %.80x, %d; want error %d", told(v), s, e, want)
	}
}

// reads: Decode makes v of the first n bytes of s.
func reads(t *testing.T, s string, v api.Cbor, n int) {
	t.Helper()
	if x, m, e := cbor.Decode(s); e != api.OK || m != n || !same(x, v) {
		t.Errorf("%.80x: %s, %d, %d; want %s, %d", s, told(x), m, e, told(v), n)
	}
}

// refuses: Decode answers nothing for s but the error want.
func refuses(t *testing.T, s string, want api.Errno) {
	t.Helper()
	if v, n, e := cbor.Decode(s); e != want || n != 0 || !isNone(v) {
		t.Errorf("%.80x: %s, %d, %d; want error %d", s, told(v), n, e, want)
	}
}

// goesBothWays: s are the bytes of v, whatever stands behind them.
func goesBothWays(t *testing.T, v api.Cbor, s string) {
	t.Helper()
	checks(t, v, api.OK)
	if x, e := cbor.Encode(v); x != s || e != api.OK {
		t.Errorf("%s: %.80x, %d; want %.80x", told(v), x, e, s)
	}
	reads(t, s, v, len(s))
	for _, behind := range []string{"\x00", "\xff", s, strings.Repeat("\x9f", api.MaxCbor)} {
		reads(t, s+behind[:min(len(behind), api.MaxCbor-len(s))], v, len(s))
	}
}

// headed: a head as the document lays it.
func headed(k int, n uint64) string {
	first := byte(32 * k)
	switch {
	case n < 24:
		return string([]byte{first + byte(n)})
	case n <= math.MaxUint8:
		return string([]byte{first + 24, byte(n)})
	case n <= math.MaxUint16:
		return string(binary.BigEndian.AppendUint16([]byte{first + 25}, uint16(n)))
	case n <= math.MaxUint32:
		return string(binary.BigEndian.AppendUint32([]byte{first + 26}, uint32(n)))
	}
	return string(binary.BigEndian.AppendUint64([]byte{first + 27}, n))
}

// laid: the bytes of an item as the document lays them.
func laid(v api.Cbor) string {
	var inner strings.Builder
	for _, x := range v.List {
		inner.WriteString(laid(x))
	}
	switch v.Kind {
	case api.CborInt:
		if v.Num < 0 {
			return headed(1, uint64(-1-v.Num))
		}
		return headed(0, uint64(v.Num))
	case api.CborBytes:
		return headed(2, uint64(len(v.Text))) + v.Text
	case api.CborText:
		return headed(3, uint64(len(v.Text))) + v.Text
	case api.CborList:
		return headed(4, uint64(len(v.List))) + inner.String()
	}
	return headed(5, uint64(len(v.List)/2)) + inner.String()
}

// anyItem: one that may be and is at most deep, the same one for the same r.
func anyItem(r *rand.Rand, deep int) api.Cbor {
	kind := r.Intn(api.CborKinds)
	if deep == 0 {
		kind = r.Intn(api.CborList)
	}
	edges := []int{0, 1, 23, 24, 255, 256, 65535, 65536, 1<<32 - 1, 1 << 32, math.MaxInt}
	switch kind {
	case api.CborInt:
		n := edges[r.Intn(len(edges))] - r.Intn(2)
		return number([]int{n, -1 - n}[r.Intn(2)])
	case api.CborBytes:
		b := make([]byte, r.Intn(30))
		r.Read(b)
		return octets(string(b))
	case api.CborText:
		return text(strings.Repeat("aé\x00", 9)[:r.Intn(9)*4])
	case api.CborList:
		var l []api.Cbor
		for range r.Intn(4) {
			l = append(l, anyItem(r, deep-1))
		}
		return list(l...)
	}
	var keys []string
	all := map[string]api.Cbor{}
	for range r.Intn(5) {
		if k := anyItem(r, 0); k.Kind != api.CborBytes {
			keys = append(keys, laid(k))
			all[laid(k)] = k
		}
	}
	slices.Sort(keys)
	var l []api.Cbor
	for _, k := range slices.Compact(keys) {
		l = append(l, all[k], anyItem(r, deep-1))
	}
	return pairs(l...)
}

// samples: items that may be, always the same ones.
func samples() []api.Cbor {
	r := rand.New(rand.NewSource(3))
	var l []api.Cbor
	for range 500 {
		l = append(l, anyItem(r, 4))
	}
	return append(l, within(api.MaxDepth, number(1)), within(api.MaxDepth-1, list()), within(api.MaxDepth-1, pairs()))
}

// open is a list or a map whose elements are being read.
type open struct {
	isMap bool
	left  uint64 // elements
	from  int    // where the next element begins
	last  string // the last key's bytes
}

// verdict: how many bytes the item has that s begins with, or why there is none; read with a stack of its own, apart from the program.
func verdict(s string) (int, api.Errno) {
	if len(s) > api.MaxCbor {
		return 0, api.ErrCborLong
	}
	var stack []open
	for at := 0; ; {
		kind, n, behind, ok := headAt(s, at)
		if !ok {
			return 0, api.ErrCborText
		}
		at = behind
		switch kind {
		case 2, 3:
			if n > uint64(len(s)-at) || kind == 3 && !utf8.ValidString(s[at:at+int(n)]) {
				return 0, api.ErrCborText
			}
			at += int(n)
		case 4, 5:
			if len(stack) == api.MaxDepth {
				return 0, api.ErrCborDeep
			}
			stack = append(stack, open{isMap: kind == 5, left: n << (kind - 4), from: at})
			if n > 0 {
				continue
			}
			stack = stack[:len(stack)-1]
		}
		if stack, ok = ended(stack, s, at); !ok {
			return 0, api.ErrCborText
		}
		if len(stack) == 0 {
			return at, api.OK
		}
	}
}

// ended: what is still open behind an item that ends at a place, and with it each list and map whose last element it is; false, if it is a key that can't stand there.
func ended(stack []open, s string, at int) ([]open, bool) {
	for len(stack) > 0 {
		top := &stack[len(stack)-1]
		if item := s[top.from:at]; top.isMap && top.left%2 == 0 {
			if !strings.Contains("\x00\x01\x03", string([]byte{item[0] >> 5})) || item <= top.last {
				return nil, false
			}
			top.last = item
		}
		top.from = at
		if top.left--; top.left > 0 {
			break
		}
		stack = stack[:len(stack)-1]
	}
	return stack, true
}

// headAt: the head that stands in s at a place, and where it ends.
func headAt(s string, at int) (kind int, n uint64, behind int, ok bool) {
	if at == len(s) {
		return 0, 0, 0, false
	}
	kind, low := int(s[at]>>5), int(s[at]&31)
	size := 0
	if low >= 24 {
		size = 1 << (low - 24)
	}
	if kind > 5 || low > 27 || at+1+size > len(s) {
		return 0, 0, 0, false
	}
	n = uint64(low)
	if size > 0 {
		var eight [8]byte
		copy(eight[8-size:], s[at+1:at+1+size])
		n = binary.BigEndian.Uint64(eight[:])
	}
	behind = at + 1 + size
	return kind, n, behind, n <= math.MaxInt64 && headed(kind, n) == s[at:behind]
}

// agrees: does Decode answer what verdict says of s, with the item whose bytes these are?
func agrees(t *testing.T, s string) {
	t.Helper()
	n, want := verdict(s)
	v, m, e := cbor.Decode(s)
	if e != want || m != n {
		t.Errorf("%.80x: %d, %d; want %d, %d", s, m, e, n, want)
		return
	}
	if e != api.OK {
		if !isNone(v) {
			t.Errorf("%.80x: %s beside %d", s, told(v), e)
		}
		return
	}
	if laid(v) != s[:n] {
		t.Errorf("%.80x: %s", s, told(v))
	}
	checks(t, v, api.OK)
	if x, e := cbor.Encode(v); x != s[:n] || e != api.OK {
		t.Errorf("%.80x: %.80x again, %d", s[:n], x, e)
	}
}
