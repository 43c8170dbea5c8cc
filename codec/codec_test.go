package codec_test

import (
	"encoding/base64"
	"encoding/hex"
	"math/rand"
	"strings"
	"testing"

	"seneschal/api"
	"seneschal/codec"
)

// allBytes: each byte once, rising.
func allBytes() string {
	b := make([]byte, 256)
	for i := range b {
		b[i] = byte(i)
	}
	return string(b)
}

// samples: texts of many lengths, always the same ones.
func samples() []string {
	l := []string{"", "\x00", "\xff", "a", "+", "%", "%20", "a b", "é", "\xc3", allBytes()}
	r := rand.New(rand.NewSource(1))
	for n := range 200 {
		b := make([]byte, n)
		for i := range b {
			b[i] = byte(r.Intn(256))
		}
		l = append(l, string(b))
	}
	return l
}

// from: one of the calls that read a text.
type from func(string) (string, api.Errno)

// reads: f makes want of s.
func reads(t *testing.T, f from, s, want string) {
	t.Helper()
	if b, e := f(s); b != want || e != api.OK {
		t.Errorf("%q: %q, %d; want %q", s, b, e, want)
	}
}

// refuses: f answers nothing for s but the error want.
func refuses(t *testing.T, f from, s string, want api.Errno) {
	t.Helper()
	if b, e := f(s); b != "" || e != want {
		t.Errorf("%q: %q, %d; want error %d", s, b, e, want)
	}
}

func TestP11Hex(t *testing.T) {
	for s, want := range map[string]string{"": "", "\x00\xffa": "00ff61", "\x09\x0a\x90\xa0": "090a90a0", "é": "c3a9"} {
		if x := codec.Hex(s); x != want {
			t.Errorf("%q: %q; want %q", s, x, want)
		}
	}
	for _, s := range samples() {
		if x := codec.Hex(s); x != hex.EncodeToString([]byte(s)) {
			t.Errorf("%q: %q", s, x)
		}
	}
}

func TestP11FromHex(t *testing.T) {
	reads(t, codec.FromHex, "", "")
	reads(t, codec.FromHex, "00ff61", "\x00\xffa")
	for _, s := range []string{"0", "000", "00FF", "fF", "Ff", "0g", "g0", "0/", "0:", "0`", "0x", " 00", "00 ", "0 0", "00\n", "%0", "0\x00", "\x000", "0\xb0", "é"} {
		refuses(t, codec.FromHex, s, api.ErrCodecHex)
	}
}

func TestP11EachPairOfDigits(t *testing.T) {
	const digits = "0123456789abcdef"
	for a := range 256 {
		for b := range 256 {
			s := string([]byte{byte(a), byte(b)})
			high, low := strings.IndexByte(digits, byte(a)), strings.IndexByte(digits, byte(b))
			if high < 0 || low < 0 {
				refuses(t, codec.FromHex, s, api.ErrCodecHex)
			} else {
				reads(t, codec.FromHex, s, string([]byte{byte(16*high + low)}))
			}
		}
	}
}

func TestP12Base64(t *testing.T) {
	for s, want := range map[string]string{"": "", "f": "Zg", "fo": "Zm8", "foo": "Zm9v", "foob": "Zm9vYg", "fooba": "Zm9vYmE", "foobar": "Zm9vYmFy", "\xfb\xff": "-_8", "\x00": "AA", "\xff\xff\xff": "____"} {
		if x := codec.Base64(s); x != want {
			t.Errorf("%q: %q; want %q", s, x, want)
		}
	}
	for _, s := range samples() {
		if x := codec.Base64(s); x != base64.RawURLEncoding.EncodeToString([]byte(s)) {
			t.Errorf("%q: %q", s, x)
		}
	}
}

func TestP12FromBase64(t *testing.T) {
	reads(t, codec.FromBase64, "", "")
	reads(t, codec.FromBase64, "Zg", "f")
	reads(t, codec.FromBase64, "-_8", "\xfb\xff")
	for _, s := range []string{"Z", "Zm9vY", "Zg==", "Zg=", "=", "+/", "+_8", "Zg\n", "\nZg", "Z\ng", "Zg ", "Zm8.", "Zm8~", "Zm8\x00", "\xdag", "Zé", "AB\x80A"} {
		refuses(t, codec.FromBase64, s, api.ErrCodecBase)
	}
}

// What stands behind the last whole byte must be 0, be it four bits or two.
func TestP12BitsBehindTheBytes(t *testing.T) {
	const alphabet = "ABCDEFGHIJKLMNOPQRSTUVWXYZabcdefghijklmnopqrstuvwxyz0123456789-_"
	for i := range 64 {
		c := alphabet[i : i+1]
		if i%16 == 0 {
			reads(t, codec.FromBase64, "A"+c, string([]byte{byte(i / 16)}))
		} else {
			refuses(t, codec.FromBase64, "A"+c, api.ErrCodecBase)
		}
		if i%4 == 0 {
			reads(t, codec.FromBase64, "AA"+c, string([]byte{0, byte(i / 4)}))
		} else {
			refuses(t, codec.FromBase64, "AA"+c, api.ErrCodecBase)
		}
		reads(t, codec.FromBase64, "AAA"+c, string([]byte{0, 0, byte(i)}))
		refuses(t, codec.FromBase64, "AAAA"+c, api.ErrCodecBase)
	}
}

func TestP13Percent(t *testing.T) {
	const plain = "ABCDEFGHIJKLMNOPQRSTUVWXYZabcdefghijklmnopqrstuvwxyz0123456789-._~"
	if x := codec.Percent(plain); x != plain {
		t.Errorf("%q", x)
	}
	for s, want := range map[string]string{"": "", "a b/é": "a%20b%2F%C3%A9", "%": "%25", "+": "%2B", "\x00\xff": "%00%FF"} {
		if x := codec.Percent(s); x != want {
			t.Errorf("%q: %q; want %q", s, x, want)
		}
	}
	for i := range 256 {
		s := string([]byte{byte(i)})
		want := "%" + strings.ToUpper(hex.EncodeToString([]byte(s)))
		if strings.Contains(plain, s) {
			want = s
		}
		if x := codec.Percent(s); x != want {
			t.Errorf("%q: %q; want %q", s, x, want)
		}
	}
}

func TestP13FromPercent(t *testing.T) {
	for s, want := range map[string]string{"": "", "a%20b%2f": "a b/", "a+b": "a+b", "%C3%a9": "é", "%aF%Fa": "\xaf\xfa", "%2525": "%25", "\x00\xff é&=": "\x00\xff é&="} {
		reads(t, codec.FromPercent, s, want)
	}
	for _, s := range []string{"%", "%4", "a%4", "%zz", "%4z", "%z4", "%_a", "%4_", "%%41", "%4%41", "%é", "%g0", "%0g", "%G0", "%0G", "%/0", "%:0", "%@0", "%`0", "% 4", "%+4", "%41%", "%\xb0\xb0"} {
		refuses(t, codec.FromPercent, s, api.ErrCodecPercent)
	}
}

func TestP13EachPairOfDigits(t *testing.T) {
	for a := range 256 {
		for b := range 256 {
			s := string([]byte{byte(a), byte(b)})
			want, err := hex.DecodeString(s)
			if err != nil {
				refuses(t, codec.FromPercent, "a%"+s, api.ErrCodecPercent)
			} else {
				reads(t, codec.FromPercent, "a%"+s+"b", "a"+string(want)+"b")
			}
		}
	}
}

func TestP16ReadsWhatIsWritten(t *testing.T) {
	for _, s := range samples() {
		reads(t, codec.FromHex, codec.Hex(s), s)
		reads(t, codec.FromBase64, codec.Base64(s), s)
		reads(t, codec.FromPercent, codec.Percent(s), s)
	}
}

func TestP16Base64Length(t *testing.T) {
	for n := range 1000 {
		if x := codec.Base64(strings.Repeat("\xff", n)); len(x) != (4*n+2)/3 {
			t.Errorf("%d bytes: %d characters", n, len(x))
		}
	}
}

// What is taken is written again byte by byte: each text of two bytes, and each of three characters that come near to the alphabets.
func TestP16WrittenAgain(t *testing.T) {
	again := func(s string) {
		if b, e := codec.FromHex(s); e == api.OK && codec.Hex(b) != s {
			t.Errorf("FromHex took %q", s)
		}
		if b, e := codec.FromBase64(s); e == api.OK && codec.Base64(b) != s {
			t.Errorf("FromBase64 took %q", s)
		}
	}
	for a := range 256 {
		again(string([]byte{byte(a)}))
		for b := range 256 {
			again(string([]byte{byte(a), byte(b)}))
		}
	}
	const near = "ABCDEFGHIJKLMNOPQRSTUVWXYZabcdefghijklmnopqrstuvwxyz0123456789-_+/=.~ \n\x80"
	for a := range len(near) {
		for b := range len(near) {
			for c := range len(near) {
				again(string([]byte{near[a], near[b], near[c]}))
			}
		}
	}
}
