// Package codec is layer 1: bytes as text. See shared/doc/01-codec.md.
package codec

import (
	"strings"

	"seneschal/api"
)

const (
	lowDigits  = "0123456789abcdef"
	highDigits = "0123456789ABCDEF"
	sixBits    = "ABCDEFGHIJKLMNOPQRSTUVWXYZabcdefghijklmnopqrstuvwxyz0123456789-_"
	plain      = sixBits + ".~"
)

// place: the number of c in an alphabet, or -1.
func place(alphabet string, c byte) int {
	for i, r := range alphabet {
		if r == rune(c) {
			return i
		}
	}
	return -1
}

// Hex: base sixteen.
func Hex(s string) string {
	var b strings.Builder
	for i := range len(s) {
		b.WriteByte(lowDigits[s[i]>>4])
		b.WriteByte(lowDigits[s[i]&15])
	}
	return b.String()
}

// FromHex: the bytes of base sixteen.
func FromHex(s string) (string, api.Errno) {
	if len(s)%2 != 0 {
		return "", api.ErrCodecHex
	}
	var b strings.Builder
	for i := 0; i < len(s); i += 2 {
		high, low := place(lowDigits, s[i]), place(lowDigits, s[i+1])
		if high < 0 || low < 0 {
			return "", api.ErrCodecHex
		}
		b.WriteByte(byte(high<<4 | low))
	}
	return b.String(), api.OK
}

// Base64: base64url without padding.
func Base64(s string) string {
	var b strings.Builder
	rest, bits := 0, 0
	for i := range len(s) {
		rest, bits = rest<<8|int(s[i]), bits+8
		for bits >= 6 {
			bits -= 6
			b.WriteByte(sixBits[rest>>bits])
			rest &= 1<<bits - 1
		}
	}
	if bits > 0 {
		b.WriteByte(sixBits[rest<<(6-bits)])
	}
	return b.String()
}

// FromBase64: the bytes of base64url.
func FromBase64(s string) (string, api.Errno) {
	var b strings.Builder
	rest, bits := 0, 0
	for i := range len(s) {
		n := place(sixBits, s[i])
		if n < 0 {
			return "", api.ErrCodecBase
		}
		rest, bits = rest<<6|n, bits+6
		if bits >= 8 {
			bits -= 8
			b.WriteByte(byte(rest >> bits))
			rest &= 1<<bits - 1
		}
	}
	// Six bits that are left are a character of no byte; Base64 itself leaves none but zeros.
	if bits == 6 || rest != 0 {
		return "", api.ErrCodecBase
	}
	return b.String(), api.OK
}

// Percent: with percent signs.
func Percent(s string) string {
	var b strings.Builder
	for i := range len(s) {
		if place(plain, s[i]) >= 0 {
			b.WriteByte(s[i])
			continue
		}
		b.WriteByte('%')
		b.WriteByte(highDigits[s[i]>>4])
		b.WriteByte(highDigits[s[i]&15])
	}
	return b.String()
}

// FromPercent: without them.
func FromPercent(s string) (string, api.Errno) {
	var b strings.Builder
	for i := 0; i < len(s); i++ {
		if s[i] != '%' {
			b.WriteByte(s[i])
			continue
		}
		if len(s)-i < 3 {
			return "", api.ErrCodecPercent
		}
		high, low := digit(s[i+1]), digit(s[i+2])
		if high < 0 || low < 0 {
			return "", api.ErrCodecPercent
		}
		b.WriteByte(byte(high<<4 | low))
		i += 2
	}
	return b.String(), api.OK
}

// digit: what a digit of base sixteen stands for, small or capital, or -1.
func digit(c byte) int {
	return max(place(lowDigits, c), place(highDigits, c))
}
