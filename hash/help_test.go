package hash_test

import (
	"crypto/hmac"
	"crypto/pbkdf2"
	"crypto/sha256"
	"encoding/hex"
	"math"
	"math/rand"
	"strings"
	"testing"

	"seneschal/api"
	"seneschal/hash"
)

// edges: lengths around one block, two and three, and around those where what stands behind the bytes takes one block more.
var edges = []int{0, 1, 54, 55, 56, 57, 62, 63, 64, 65, 118, 119, 120, 121, 127, 128, 129, 183, 184, 191, 192, 193}

// notRounds and notLengths: numbers of rounds, and of stretched bytes, that may not be.
var (
	notRounds  = []int{0, -1, api.MaxRounds + 1, api.MaxRounds + 2, -api.MaxRounds, 1 << 32, 1<<32 + 1, math.MaxInt, math.MinInt}
	notLengths = []int{0, -1, api.MaxStretch + 1, api.MaxStretch + 2, -32, 1 << 32, 1<<32 + 1, math.MaxInt, math.MinInt}
)

// bytesOf: those that are written in base sixteen, with blanks.
func bytesOf(digits string) string {
	b, err := hex.DecodeString(strings.ReplaceAll(digits, " ", ""))
	if err != nil {
		panic(err)
	}
	return string(b)
}

// anyBytes: n bytes, the same ones for the same r.
func anyBytes(r *rand.Rand, n int) string {
	b := make([]byte, n)
	r.Read(b)
	return string(b)
}

// ofLength: n bytes of each kind that could be taken for another: zeros, those that stand behind, high ones, and unlike ones.
func ofLength(n int) []string {
	r := rand.New(rand.NewSource(int64(n)))
	l := []string{anyBytes(r, n)}
	for _, c := range []string{"\x00", "\x80", "\xff", "a"} {
		l = append(l, strings.Repeat(c, n))
	}
	if n > 0 {
		l = append(l, strings.Repeat("a", n-1)+"\x00", strings.Repeat("a", n-1)+"\x80")
	}
	return l
}

// samples: bytes of all kinds, always the same ones.
func samples() []string {
	var l []string
	for _, n := range edges {
		l = append(l, ofLength(n)...)
	}
	return append(l, "abc", "é", "a b", "\x00\x00", "\xc3\x28")
}

// theSum, theMac and theStretch: what another program answers.
func theSum(s string) string {
	sum := sha256.Sum256([]byte(s))
	return string(sum[:])
}

func theMac(key, s string) string {
	m := hmac.New(sha256.New, []byte(key))
	m.Write([]byte(s))
	return string(m.Sum(nil))
}

func theStretch(pass, salt string, rounds, n int) string {
	b, err := pbkdf2.Key(sha256.New, pass, []byte(salt), rounds, n)
	if err != nil {
		panic(err)
	}
	return string(b)
}

func sums(t *testing.T, s, want string) {
	t.Helper()
	if x := hash.Sum(s); x != want {
		t.Errorf("%d bytes %.40x: %x; want %x", len(s), s, x, want)
	}
}

func macs(t *testing.T, key, s, want string) {
	t.Helper()
	if x := hash.Mac(key, s); x != want {
		t.Errorf("key of %d bytes %.40x, %d bytes %.40x: %x; want %x", len(key), key, len(s), s, x, want)
	}
}

func stretches(t *testing.T, pass, salt string, rounds, n int, want string) {
	t.Helper()
	if x, e := hash.Stretch(pass, salt, rounds, n); x != want || e != api.OK {
		t.Errorf("%.40x, %.40x, %d, %d: %x, %d; want %x", pass, salt, rounds, n, x, e, want)
	}
}

// refuses: Stretch answers nothing for so many rounds and bytes but the error want.
func refuses(t *testing.T, rounds, n int, want api.Errno) {
	t.Helper()
	for _, pass := range []string{"", "password", strings.Repeat("p", 65)} {
		if x, e := hash.Stretch(pass, "salt", rounds, n); x != "" || e != want {
			t.Errorf("%q, %d, %d: %x, %d; want error %d", pass, rounds, n, x, e, want)
		}
	}
}
