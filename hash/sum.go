package hash

import (
	"math/bits"
	"strings"
)

const (
	blockSize = 64 // bytes of a block
	sumSize   = 32 // bytes of a sum
)

// state is what the blocks so far have made: of eight numbers, a to h.
type state [8]uint32

// Sum: SHA-256.
func Sum(s string) string {
	whole := len(s) - len(s)%blockSize
	// What stands behind the bytes is laid behind the last of them alone, for s may be long.
	return firstState().through(s[:whole]).through(s[whole:] + behind(len(s))).text()
}

// behind: what stands behind n bytes, up to the end of a block.
func behind(n int) string {
	bitCount := uint64(n) * 8
	// A byte 128 and eight of the length stand there always, and in between what is left to the end of a block.
	zeros := (2*blockSize - 9 - n%blockSize) % blockSize
	return "\x80" + strings.Repeat("\x00", zeros) + four(uint32(bitCount>>32)) + four(uint32(bitCount))
}

// four: a number as four bytes, the highest first.
func four(n uint32) string {
	return string([]byte{byte(n >> 24), byte(n >> 16), byte(n >> 8), byte(n)})
}

// text: the numbers as bytes.
func (h state) text() string {
	var b strings.Builder
	for _, n := range h {
		b.WriteString(four(n))
	}
	return b.String()
}

// through: the state behind all blocks of s.
func (h state) through(s string) state {
	for at := 0; at < len(s); at += blockSize {
		h = h.next(s[at : at+blockSize])
	}
	return h
}

// next: the state behind one more block.
func (h state) next(block string) state {
	k, w := constants(), spread(numbers(block))
	old := h
	for i := range k {
		h.turn(k[i] + w[i])
	}
	for i := range h {
		h[i] += old[i]
	}
	return h
}

// turn: what one number of a block does to a to h.
func (h *state) turn(n uint32) {
	a, b, c, e, f, g := h[0], h[1], h[2], h[4], h[5], h[6]
	t := h[7] + (ror(e, 6) ^ ror(e, 11) ^ ror(e, 25)) + (e&f ^ g&^e) + n
	u := (ror(a, 2) ^ ror(a, 13) ^ ror(a, 22)) + (a&b ^ a&c ^ b&c)
	// Each of b to h is the old one ahead of it, whereby the old d stands in the place of e.
	copy(h[1:], h[:7])
	h[4] += t
	h[0] = t + u
}

// ror: x turned right by n bits.
func ror(x uint32, n int) uint32 { return bits.RotateLeft32(x, -n) }

// numbers: those of a block, of four bytes each.
func numbers(block string) [16]uint32 {
	var l [16]uint32
	for i := range blockSize {
		l[i/4] = l[i/4]<<8 | uint32(block[i])
	}
	return l
}

// spread: a block's sixteen numbers, and behind them those that are made of them.
func spread(block [16]uint32) [64]uint32 {
	var w [64]uint32
	copy(w[:], block[:])
	for i := len(block); i < len(w); i++ {
		x, y := w[i-15], w[i-2]
		s0 := ror(x, 7) ^ ror(x, 18) ^ x>>3
		s1 := ror(y, 17) ^ ror(y, 19) ^ y>>10
		w[i] = w[i-16] + s0 + w[i-7] + s1
	}
	return w
}
