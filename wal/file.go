package wal

import (
	"strings"

	"seneschal/api"
)

const (
	mark           = "SNL1"  // what a log's file begins with
	generationSize = 8       // bytes that tell the generation
	maxGeneration  = 1 << 62 // the last one
	frameHead      = 8       // bytes of a frame ahead of those that it is of
)

// four: a number's bytes, the highest first.
func four(n uint32) string {
	return string([]byte{byte(n >> 24), byte(n >> 16), byte(n >> 8), byte(n)})
}

// number: what such bytes say.
func number(s string) uint32 {
	n := uint32(0)
	for i := range len(s) {
		n = n<<8 | uint32(s[i])
	}
	return n
}

// frame: that of bytes.
func frame(s string) string { return four(uint32(len(s))) + four(Sum(s)) + s }

// unframed: the bytes of the whole frame, of at most so many, with which s begins, if one does, and what stands behind it.
func unframed(s string, most int) (bytes, behind string, ok bool) {
	if len(s) < frameHead {
		return "", "", false
	}
	n, rest := int(number(s[:4])), s[frameHead:]
	if n > most || n > len(rest) || number(s[4:frameHead]) != Sum(rest[:n]) {
		return "", "", false
	}
	// A copy, for the answer is not to hold the whole of s.
	return strings.Clone(rest[:n]), rest[n:], true
}

// fileOf: a log's file without records.
func fileOf(generation int, snapshot string) string {
	return mark + four(uint32(generation>>32)) + four(uint32(generation)) + frame(snapshot)
}

// beginning is what stands in a file ahead of its records, and what stands behind that. Generation 0: the file doesn't count.
type beginning struct {
	generation       int
	snapshot, behind string
}

// beginningOf: that of a file with these bytes.
func beginningOf(s string) beginning {
	rest, marked := strings.CutPrefix(s, mark)
	if !marked || len(rest) < generationSize {
		return beginning{}
	}
	generation := uint64(number(rest[:4]))<<32 | uint64(number(rest[4:generationSize]))
	snapshot, behind, ok := unframed(rest[generationSize:], api.MaxSnapshot)
	if generation > maxGeneration || !ok {
		return beginning{}
	}
	return beginning{generation: int(generation), snapshot: snapshot, behind: behind}
}

// recordsOf: those of the whole frames with which s begins, and how many bytes stand behind the last one.
func recordsOf(s string) (records []string, torn int) {
	for {
		record, behind, ok := unframed(s, api.MaxRecord)
		if !ok {
			return records, len(s)
		}
		records, s = append(records, record), behind
	}
}
