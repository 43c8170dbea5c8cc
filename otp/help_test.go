package otp_test

import (
	"crypto/hmac"
	"crypto/sha256"
	"encoding/binary"
	"fmt"
	"math"
	"math/rand"
	"strings"
	"testing"

	"seneschal/api"
	"seneschal/otp"
)

// rfc: the secret of RFC 6238's codes for SHA-256.
const rfc = "12345678901234567890123456789012"

// anySteps: steps of every size and sign, those at both ends of 64 bits among them.
var anySteps = []int{0, 1, 2, 9, 10, 11, 255, 256, 257, 1 << 16, 1<<31 - 1, 1 << 31, 1 << 32, 1<<32 + 1, api.MaxTick - 1, api.MaxTick, api.MaxTick + 1, 1 << 56, math.MaxInt - 1, math.MaxInt, -1, -2, -255, -256, -1 << 32, math.MinInt + 1, math.MinInt}

// goodSteps: those about which a window may lie. notSteps and notWindows: what a step, a window may not be.
var (
	goodSteps  = []int{0, 1, 2, 5, 9, 10, 11, 12, 1000, 37037036, 1<<32 - 1, 1 << 32, api.MaxTick - 11, api.MaxTick - 1, api.MaxTick}
	notSteps   = []int{-1, -2, -10, -11, -1 << 32, math.MinInt, math.MinInt + 1, api.MaxTick + 1, api.MaxTick + 2, api.MaxTick + 10, 1 << 41, math.MaxInt - 10, math.MaxInt - 1, math.MaxInt}
	notWindows = []int{-1, -2, -10, -1 << 32, math.MinInt, math.MinInt + 1, api.MaxWindow + 1, api.MaxWindow + 2, 1 << 32, 1<<32 + 1, math.MaxInt - 1, math.MaxInt}
)

// pair: two steps of a secret that have the same code, the later one behind the earlier one.
type pair struct {
	secret      string
	early, late int
}

// pairs: looked for among many secrets and steps; no other step of a window about them has their code.
var pairs = []pair{
	{rfc, 132942, 132956}, {rfc, 159559, 159577}, {rfc, 345208, 345219}, {rfc, 398541, 398542}, {rfc, 430997, 431000}, {rfc, 437141, 437142},
	{"secret 28571", 0, 6}, {"secret 28714", 0, 4}, {"secret 43974", 1, 5}, {"secret 46910", 3, 6}, {"secret 63284", 1, 7},
	{"secret 1498", api.MaxTick - 8, api.MaxTick + 8}, {"secret 7174", api.MaxTick - 1, api.MaxTick + 3}, {"secret 16447", api.MaxTick + 7, api.MaxTick + 9},
}

// belowZero: pairs whose earlier step is below 0.
var belowZero = []pair{{"secret 4785", -5, 4}, {"secret 6188", -4, 6}, {"secret 8068", -7, 3}, {"secret 8492", -2, 7}, {"secret 9048", -4, 0}, {"secret 13183", -9, 9}}

// noughts: steps of rfc whose codes begin with noughts.
var noughts = map[int]string{
	37037036: "084774", 6969: "000086", 35758: "000054", 122470: "000003", 298033: "000001", 679435: "000005", 1105103: "000000", 1326306: "000000",
}

// secrets: of lengths about those that a mac's key may have, always the same ones.
func secrets() []string {
	l := []string{rfc, "é", "\xff\xfe", "\x00"}
	r := rand.New(rand.NewSource(5))
	for _, n := range []int{0, 1, 16, 20, 31, 32, 33, 63, 64, 65, 66, 200} {
		b := make([]byte, n)
		r.Read(b)
		l = append(l, string(b))
	}
	return l
}

// notCodes: texts near a code that are none, for their length or for their bytes.
func notCodes(code string) []string {
	l := []string{
		"", "0", "000000000000", code[:5], code[1:], code + "0", code + "\x00", "0" + code, code + code, code + " ", " " + code, code[:5] + " ", " " + code[1:], "+" + code[1:], "-" + code[1:], code[:5] + "\n", code[:5] + "\x00", "\x00" + code[1:],
		code[:3] + "." + code[3:], code[:3] + " " + code[3:], "abcdef", "0x" + code[2:], "\xff\xff\xff\xff\xff\xff", "\x00\x00\x00\x00\x00\x00", "éé" + code[4:], code + strings.Repeat("0", 1000),
	}
	for i := range code {
		high, digit := code[i]|0x80, code[i]-'0'
		l = append(l, code[:i]+string([]byte{high})+code[i+1:], code[:i]+string([]byte{digit})+code[i+1:])
	}
	if short := strings.TrimLeft(code, "0"); short != code {
		l = append(l, short, strings.Repeat(" ", 6-len(short))+short)
	}
	return l
}

// theCode: what another program answers.
func theCode(secret string, step int) string {
	m := hmac.New(sha256.New, []byte(secret))
	m.Write(binary.BigEndian.AppendUint64(nil, uint64(step)))
	mac := m.Sum(nil)
	at := mac[31] & 15
	return fmt.Sprintf("%06d", binary.BigEndian.Uint32(mac[at:])&0x7fffffff%1000000)
}

// theFind: Find as the chapter says it, by all steps of the window, from the earliest on.
func theFind(secret, code string, step, window int) (int, bool) {
	if step < 0 || step > api.MaxTick || window < 0 || window > api.MaxWindow {
		return 0, false
	}
	found, ok := 0, false
	for n := step - window; n <= step+window; n++ {
		if n >= 0 && theCode(secret, n) == code {
			found, ok = n, true
		}
	}
	return found, ok
}

func codeIs(t *testing.T, secret string, step int, want string) {
	t.Helper()
	if x := otp.Code(secret, step); x != want {
		t.Errorf("%q, %d: %q; want %q", secret, step, x, want)
	}
}

func finds(t *testing.T, secret, code string, step, window, want int) {
	t.Helper()
	if n, ok := otp.Find(secret, code, step, window); n != want || !ok {
		t.Errorf("%q, %q, %d, %d: %d, %t; want %d", secret, code, step, window, n, ok, want)
	}
}

func misses(t *testing.T, secret, code string, step, window int) {
	t.Helper()
	if n, ok := otp.Find(secret, code, step, window); n != 0 || ok {
		t.Errorf("%q, %q, %d, %d: %d, %t; want none", secret, code, step, window, n, ok)
	}
}

// asTheOther: Find answers what theFind does.
func asTheOther(t *testing.T, secret, code string, step, window int) {
	t.Helper()
	if want, ok := theFind(secret, code, step, window); ok {
		finds(t, secret, code, step, window, want)
	} else {
		misses(t, secret, code, step, window)
	}
}
