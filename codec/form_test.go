package codec_test

import (
	"net/url"
	"slices"
	"strings"
	"testing"

	"seneschal/api"
	"seneschal/codec"
)

// parts: the pairs of names and values by turns.
func parts(texts ...string) []api.Part {
	var l []api.Part
	for i := 0; i < len(texts); i += 2 {
		l = append(l, api.Part{Name: texts[i], Value: texts[i+1]})
	}
	return l
}

// repeated: n pairs, all the same.
func repeated(n int, name, value string) []api.Part {
	return slices.Repeat(parts(name, value), n)
}

func writesForm(t *testing.T, l []api.Part, want string) {
	t.Helper()
	if s, e := codec.Form(l); s != want || e != api.OK {
		t.Errorf("%.80q: %.80q, %d; want %.80q", l, s, e, want)
	}
}

func refusesPairs(t *testing.T, l []api.Part, want api.Errno) {
	t.Helper()
	if s, e := codec.Form(l); s != "" || e != want {
		t.Errorf("%.80q: %.80q, %d; want error %d", l, s, e, want)
	}
}

func readsForm(t *testing.T, s string, want []api.Part) {
	t.Helper()
	if l, e := codec.FromForm(s); !slices.Equal(l, want) || e != api.OK {
		t.Errorf("%.80q: %.80q, %d; want %.80q", s, l, e, want)
	}
}

func refusesForm(t *testing.T, s string, want api.Errno) {
	t.Helper()
	if l, e := codec.FromForm(s); len(l) != 0 || e != want {
		t.Errorf("%.80q: %.80q, %d; want error %d", s, l, e, want)
	}
}

func TestP14Form(t *testing.T) {
	writesForm(t, nil, "")
	writesForm(t, []api.Part{}, "")
	writesForm(t, parts("", ""), "=")
	writesForm(t, parts("", "", "", ""), "=&=")
	writesForm(t, parts("a", "1 2", "b", "&", "c", ""), "a=1+2&b=%26&c=")
	writesForm(t, parts("a b", "+", "=", "%20"), "a+b=%2B&%3D=%2520")
	writesForm(t, parts("é", "\x00\xff", "b", "2", "b", "1"), "%C3%A9=%00%FF&b=2&b=1")
	for _, s := range samples() {
		writesForm(t, parts(s, "v", "n", s), url.QueryEscape(s)+"=v&n="+url.QueryEscape(s))
	}
}

func TestP14FormTooLong(t *testing.T) {
	writesForm(t, repeated(api.MaxParts, "a", "b"), strings.Repeat("a=b&", api.MaxParts-1)+"a=b")
	refusesPairs(t, repeated(api.MaxParts+1, "", ""), api.ErrCodecLong)

	most := strings.Repeat("v", api.MaxForm-2)
	writesForm(t, parts("n", most), "n="+most)
	writesForm(t, parts(most, "v"), most+"=v")
	refusesPairs(t, parts("n", most+"v"), api.ErrCodecLong)
	refusesPairs(t, parts(most+"n", "v"), api.ErrCodecLong)
	refusesPairs(t, parts(most, "", "", ""), api.ErrCodecLong)

	// It is the form that is counted, not what it tells.
	signs := strings.Repeat("/", api.MaxForm/3)
	writesForm(t, parts("", signs[1:], "", ""), "="+strings.Repeat("%2F", api.MaxForm/3-1)+"&=")
	refusesPairs(t, parts("", signs, "", ""), api.ErrCodecLong)
	blanks := strings.Repeat(" ", api.MaxForm-1)
	writesForm(t, parts("", blanks), "="+strings.Repeat("+", api.MaxForm-1))
	refusesPairs(t, parts("", blanks+" "), api.ErrCodecLong)
	refusesPairs(t, parts(strings.Repeat("n", 1<<20), strings.Repeat("/", 1<<20)), api.ErrCodecLong)
}

func TestP14FromForm(t *testing.T) {
	readsForm(t, "", nil)
	readsForm(t, "a", parts("a", ""))
	readsForm(t, "=b", parts("", "b"))
	readsForm(t, "=", parts("", ""))
	readsForm(t, "==", parts("", "="))
	readsForm(t, "a=b=c", parts("a", "b=c"))
	readsForm(t, "a=1&b&a=3", parts("a", "1", "b", "", "a", "3"))
	readsForm(t, "a+b=%2b+%20", parts("a b", "+  "))
	readsForm(t, "%3D=%26", parts("=", "&"))
	readsForm(t, "%61=%C3%a9", parts("a", "é"))
	readsForm(t, "a;b= \x00\xff/", parts("a;b", " \x00\xff/"))
}

func TestP14FromFormWrong(t *testing.T) {
	for _, s := range []string{"&", "a&", "&a", "a&&b", "a=1&&", "&%"} {
		refusesForm(t, s, api.ErrCodecForm)
	}
	for _, s := range []string{"%", "a=%", "%=a", "%4=1", "a=%4", "a=%zz", "%=%", "a%=", "a=%+1", "%+1", "a=1&b=%", "a=%&", "%&&a"} {
		refusesForm(t, s, api.ErrCodecPercent)
	}
}

// The first part that is wrong decides; that there are too many, or that they are too long, ahead of all parts.
func TestP14FromFormOrder(t *testing.T) {
	refusesForm(t, "a&&%", api.ErrCodecForm)
	refusesForm(t, "a&%&&", api.ErrCodecPercent)

	readsForm(t, strings.Repeat("a&", api.MaxParts-1)+"a", repeated(api.MaxParts, "a", ""))
	refusesForm(t, strings.Repeat("a&", api.MaxParts)+"a", api.ErrCodecLong)
	refusesForm(t, strings.Repeat("&", api.MaxParts-1), api.ErrCodecForm)
	refusesForm(t, strings.Repeat("&", api.MaxParts), api.ErrCodecLong)
	refusesForm(t, strings.Repeat("%&", api.MaxParts), api.ErrCodecLong)

	most := strings.Repeat("a", api.MaxForm)
	readsForm(t, most, parts(most, ""))
	refusesForm(t, most+"a", api.ErrCodecLong)
	refusesForm(t, strings.Repeat("%", api.MaxForm), api.ErrCodecPercent)
	refusesForm(t, strings.Repeat("%", api.MaxForm+1), api.ErrCodecLong)
	refusesForm(t, strings.Repeat("&", api.MaxForm+1), api.ErrCodecLong)
}

func TestP15Get(t *testing.T) {
	l := parts("a", "1", "b", "2", "a", "3", "", "4", "e", "", "e", "5")
	for _, c := range []struct {
		name, value string
		count       int
	}{{"a", "1", 2}, {"b", "2", 1}, {"", "4", 1}, {"e", "", 2}, {"c", "", 0}, {"A", "", 0}, {"a ", "", 0}, {"1", "", 0}} {
		if v, n := codec.Get(l, c.name); v != c.value || n != c.count {
			t.Errorf("%q: %q, %d; want %q, %d", c.name, v, n, c.value, c.count)
		}
	}
	if v, n := codec.Get(nil, ""); v != "" || n != 0 {
		t.Errorf("of none: %q, %d", v, n)
	}
	if v, n := codec.Get(repeated(1000, "a", "b"), "a"); v != "b" || n != 1000 {
		t.Errorf("of many: %q, %d", v, n)
	}
}

func TestP16FormReadsWhatIsWritten(t *testing.T) {
	readsForm(t, "", nil)
	all := samples()
	for i, s := range all {
		l := parts(s, all[len(all)-1-i], "", s, s, "", "", "")
		f, e := codec.Form(l)
		if e != api.OK {
			t.Fatal(e)
		}
		readsForm(t, f, l)
	}
}

// R4: lists that are handed in stay as they are, the room behind them too, and an answer is memory of its own.
func TestR4ListsAreTheCallers(t *testing.T) {
	l := parts("a b", "1", "c", "&", "spare", "room")
	before := slices.Clone(l)
	codec.Form(l[:2])
	codec.Get(l[:2], "a b")
	if !slices.Equal(l, before) {
		t.Errorf("changed: %q", l)
	}
	one, _ := codec.FromForm("a=1&b=2")
	two, _ := codec.FromForm("a=1&b=2")
	one[0].Value = "changed"
	_ = append(one[:1], api.Part{Name: "x"})
	if !slices.Equal(two, parts("a", "1", "b", "2")) {
		t.Errorf("shared: %q", two)
	}
}

// R5: nothing is kept from call to call, a refused one least of all.
func TestR5NothingIsKept(t *testing.T) {
	for range 2 {
		refusesForm(t, "a=1&b=%", api.ErrCodecPercent)
		readsForm(t, "c=3", parts("c", "3"))
		refusesPairs(t, repeated(api.MaxParts+1, "a", "b"), api.ErrCodecLong)
		writesForm(t, parts("c", "3"), "c=3")
		refuses(t, codec.FromHex, "61zz", api.ErrCodecHex)
		reads(t, codec.FromHex, "62", "b")
		refuses(t, codec.FromBase64, "Zm9v=", api.ErrCodecBase)
		reads(t, codec.FromBase64, "Zg", "f")
		refuses(t, codec.FromPercent, "a%", api.ErrCodecPercent)
		reads(t, codec.FromPercent, "b", "b")
	}
}

// R1: each call ends at any text, and none panics.
func FuzzR1EndsAtAnyText(f *testing.F) {
	for _, s := range samples() {
		f.Add(s, s)
	}
	f.Add("a=%", "%4")
	f.Add("Zh", "a&&b")
	f.Fuzz(func(t *testing.T, a, b string) {
		for _, s := range []string{a, b} {
			reads(t, codec.FromHex, codec.Hex(s), s)
			reads(t, codec.FromBase64, codec.Base64(s), s)
			reads(t, codec.FromPercent, codec.Percent(s), s)
			if x, e := codec.FromHex(s); e == api.OK && codec.Hex(x) != s {
				t.Errorf("FromHex took %q", s)
			}
			if x, e := codec.FromBase64(s); e == api.OK && codec.Base64(x) != s {
				t.Errorf("FromBase64 took %q", s)
			}
			codec.FromPercent(s)
			codec.FromForm(s)
		}
		if s, e := codec.Form(parts(a, b)); e == api.OK {
			readsForm(t, s, parts(a, b))
		}
	})
}
