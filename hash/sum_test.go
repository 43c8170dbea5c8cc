package hash

import "testing"

// So many bytes that how many bits they have takes more than four of the eight bytes: told without laying them.
func TestP41WhatStandsBehindManyBytes(t *testing.T) {
	for n, want := range map[int]string{
		1<<29 - 1: "\x00\x00\x00\x00\xff\xff\xff\xf8",
		1 << 29:   "\x00\x00\x00\x01\x00\x00\x00\x00",
		1<<31 - 1: "\x00\x00\x00\x03\xff\xff\xff\xf8",
	} {
		s := behind(n)
		if (n+len(s))%64 != 0 || len(s) < 9 || len(s) > 72 || s[0] != 128 || s[len(s)-8:] != want {
			t.Errorf("%d: %x; want %x at the end", n, s, want)
		}
	}
}
