package people_test

import (
	"math/rand"
	"regexp"
	"slices"
	"strconv"
	"strings"
	"testing"
	"unsafe"

	"seneschal/people"
)

// sort of texts: the function that knows them, their form, the bytes that they may have, how many of them at most.
type sort struct {
	name  string
	knows func(string) bool
	form  *regexp.Regexp
	bytes string
	most  int
}

const ofNames = "abcdefghijklmnopqrstuvwxyz0123456789._-"

func sorts() []sort {
	graphic := ""
	for b := 33; b <= 126; b++ {
		graphic += string(rune(b))
	}
	return []sort{
		{"Name", people.Name, nameForm, ofNames, 24},
		{"Text", people.Text, textForm, graphic, 128},
		{"Scope", people.Scope, scopeForm, ofNames + ":", 32},
	}
}

// everyByte: each, as a text.
func everyByte() []string {
	var l []string
	for b := range 256 {
		l = append(l, string([]byte{byte(b)}))
	}
	return l
}

func TestP121Bytes(t *testing.T) {
	for _, s := range sorts() {
		for _, b := range everyByte() {
			want := strings.Contains(s.bytes, b)
			for _, text := range []string{b, "a" + b, b + "a", "a" + b + "a"} {
				if s.knows(text) != want {
					t.Errorf("%s(%q): %t", s.name, text, !want)
				}
			}
		}
	}
}

func TestP121Lengths(t *testing.T) {
	for _, s := range sorts() {
		for n := range 300 {
			if want := n >= 1 && n <= s.most; s.knows(strings.Repeat("x", n)) != want {
				t.Errorf("%s of %d bytes: %t", s.name, n, !want)
			}
		}
		if s.knows(strings.Repeat("x", 1<<20)) {
			t.Error(s.name)
		}
	}
}

func TestP121Principal(t *testing.T) {
	for n := range 30 {
		name := strings.Repeat("n", n)
		for _, prefix := range []string{"u:", "c:"} {
			if want := n >= 1 && n <= 24; people.Principal(prefix+name) != want {
				t.Errorf("%s and %d bytes: %t", prefix, n, !want)
			}
		}
	}
	for _, b := range everyByte() {
		if people.Principal(b+":ann") != (b == "u" || b == "c") || people.Principal("u"+b+"ann") != (b == ":") ||
			people.Principal("u:"+b) != strings.Contains(ofNames, b) || people.Principal("c:"+b) != strings.Contains(ofNames, b) {
			t.Errorf("%q", b)
		}
	}
	for _, s := range []string{"", "u", "c", ":", "ann", ":ann", "u::ann", "u:u:ann", "u:c:ann", "c:u:x", "uc:ann", "u: ann", " u:ann", "u:ann ", "u:ann\n"} {
		if people.Principal(s) {
			t.Errorf("%q", s)
		}
	}
}

func TestP121Examples(t *testing.T) {
	if s := people.Form([]string{"ab", ""}); s != "2:ab0:" {
		t.Errorf("%q", s)
	}
	reads(t, "2:ab0:", "ab", "")
	readsNot(t, "02:ab")
	readsNot(t, "3:ab")
}

// reads: a row is that of these texts; readsNot: a text is no row.
func reads(t testing.TB, s string, want ...string) {
	t.Helper()
	if l, ok := people.Texts(s); !ok || !slices.Equal(l, want) {
		t.Errorf("Texts(%.80q): %.200q, %t; want %.200q", s, l, ok, want)
	}
	if row := people.Form(want); row != s {
		t.Errorf("Form(%.200q): %.80q; want %.80q", want, row, s)
	}
}

func readsNot(t testing.TB, s string) {
	t.Helper()
	if l, ok := people.Texts(s); ok || l != nil {
		t.Errorf("Texts(%.80q): %.200q, %t", s, l, ok)
	}
}

func TestP121Row(t *testing.T) {
	reads(t, "")
	reads(t, "0:", "")
	reads(t, "0:0:", "", "")
	reads(t, "1::", ":")
	reads(t, "2:1:0:", "1:", "")
	reads(t, "4:2:ab", "2:ab")
	reads(t, "2:\x00\xff1:\n", "\x00\xff", "\n")
	for _, n := range []int{9, 10, 11, 99, 100, 101, 1000, 1 << 20} {
		reads(t, strconv.Itoa(n)+":"+strings.Repeat("1", n), strings.Repeat("1", n))
	}
	many := make([]string, 1<<16)
	reads(t, strings.Repeat("0:", 1<<16), many...)
}

func TestP121NoRow(t *testing.T) {
	for _, s := range []string{
		"a", ":", "::", "0", "1", "12", "0:a", ":a", "1:", "2:a", "1:ab", "1:a0", "1:a1", "1:a1:", "1:a:", "ab:c",
		"00:", "01:a", "000:", "1:a00:", "1:a01:b", "+1:a", "-1:a", "-0:", "+0:", " 1:a", "1 :a", "1: a", "1_0:0123456789", "0x1:a", "0x0:", "1e0:a", "1.:a",
		"\x00:", "1\x00:a", "\xff", "١:a", "1;a", "1:a ", "1:a\n", "\n1:a",
		"9223372036854775807:a", "9223372036854775808:a", "9999999999999999999:a", "18446744073709551616:", "18446744073709551617:a", "36893488147419103233:a",
		strings.Repeat("1", 1<<20), strings.Repeat("1", 1<<20) + ":a", strings.Repeat("0", 1<<20) + ":", strings.Repeat("a", 1<<20), strings.Repeat(":", 1<<20),
	} {
		readsNot(t, s)
		readsNot(t, "2:ab"+s)
	}
}

func TestP121RowsByChance(t *testing.T) {
	r := rand.New(rand.NewSource(1))
	for range 5000 {
		var l []string
		for range r.Intn(6) {
			text := make([]byte, anyOf(r, 0, 1, 2, 9, 10, 11, 100))
			for i := range text {
				text[i] = anyOf[byte](r, '0', '1', '2', ':', 'a', 0)
			}
			l = append(l, string(text))
		}
		s := people.Form(l)
		reads(t, s, l...)
		if s == "" {
			continue
		}
		// One byte other, one more, or one less: if that is a row, it is that of other texts.
		at := r.Intn(len(s))
		for _, other := range []string{s[:at] + s[at+1:], s[:at] + anyOf(r, "0", "1", ":", "a") + s[at:], s[:at] + anyOf(r, "0", "1", ":", "a") + s[at+1:]} {
			if k, ok := people.Texts(other); ok && people.Form(k) != other || !ok && k != nil {
				t.Errorf("%q: %q, %t", other, k, ok)
			}
		}
	}
}

// FuzzP121Texts: Texts takes just what Form writes.
func FuzzP121Texts(f *testing.F) {
	for _, s := range []string{"2:ab0:", "02:ab", "3:ab", "10:0123456789", ":", "99999999999999999999:"} {
		f.Add(s)
	}
	f.Fuzz(func(t *testing.T, s string) {
		l, ok := people.Texts(s)
		switch {
		case ok:
			reads(t, s, l...)
		case l != nil:
			t.Errorf("%q", l)
		}
		reads(t, people.Form([]string{s, s}), s, s)
		for _, sort := range sorts() {
			if sort.knows(s) != sort.form.MatchString(s) {
				t.Errorf("%s(%q)", sort.name, s)
			}
		}
		if people.Principal(s) != principalForm.MatchString(s) {
			t.Errorf("Principal(%q)", s)
		}
	})
}

// R4: a row that is handed in may change behind the call, and what is answered is the caller's.
func TestR4TextsAreTheCallers(t *testing.T) {
	row := []byte("2:ab3:cde0:")
	s := unsafe.String(&row[0], len(row))
	first, _ := people.Texts(s)
	second, _ := people.Texts(s)
	for i := range second[:cap(second)] {
		second[:cap(second)][i] = "mine"
	}
	copy(row, "XXXXXXXXXXX")
	if !slices.Equal(first, []string{"ab", "cde", ""}) {
		t.Errorf("%q", first)
	}
	text := []byte("ab")
	l := append(make([]string, 0, 4), unsafe.String(&text[0], len(text)), "c")
	form := people.Form(l[:1])
	if copy(text, "XX"); form != "2:ab" || !slices.Equal(l[:4], []string{"XX", "c", "", ""}) {
		t.Errorf("%q, %q", form, l[:4])
	}
}
