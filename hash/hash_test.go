package hash_test

import (
	"math/rand"
	"strings"
	"testing"

	"seneschal/api"
	"seneschal/hash"
)

func TestP41SumOfExamples(t *testing.T) {
	for s, digits := range map[string]string{
		"":    "e3b0c442 98fc1c14 9afbf4c8 996fb924 27ae41e4 649b934c a495991b 7852b855",
		"abc": "ba7816bf 8f01cfea 414140de 5dae2223 b00361a3 96177a9c b410ff61 f20015ad",
		"abcdbcdecdefdefgefghfghighijhijkijkljklmklmnlmnomnopnopq": "248d6a61 d20638b8 e5c02693 0c3e6039 a33ce459 64ff2167 f6ecedd4 19db06c1",
		strings.Repeat("a", 1000000):                               "cdc76e5c 9914fb92 81a1c7e2 84d73e67 f1809a48 a497200e 046d39cc c7112cd0",
	} {
		sums(t, s, bytesOf(digits))
	}
}

func TestP41SumOfEachLength(t *testing.T) {
	for n := range 400 {
		for _, s := range ofLength(n) {
			sums(t, s, theSum(s))
		}
	}
	for _, n := range []int{1<<13 - 1, 1 << 13, 1<<16 + 55, 1<<16 + 56, 1<<20 + 63} {
		for _, s := range ofLength(n) {
			sums(t, s, theSum(s))
		}
	}
}

func TestP41SumOfEachByte(t *testing.T) {
	for a := range 256 {
		c := string([]byte{byte(a)})
		sums(t, c, theSum(c))
		for _, n := range edges {
			s := strings.Repeat("a", n) + c + strings.Repeat("b", 70-n%70)
			sums(t, s, theSum(s))
		}
	}
}

func TestP41MacOfExamples(t *testing.T) {
	for _, c := range []struct{ key, s, digits string }{
		{"Jefe", "what do ya want for nothing?", "5bdcc146 bf60754e 6a042426 089575c7 5a003f08 9d273983 9dec58b9 64ec3843"},
		{"", "", "b613679a 0814d9ec 772f95d7 78c35fc5 ff1697c4 93715653 c6c71214 4292c5ad"},
		{strings.Repeat("\x0b", 20), "Hi There", "b0344c61 d8db3853 5ca8afce af0bf12b 881dc200 c9833da7 26e9376c 2e32cff7"},
		{strings.Repeat("\xaa", 131), "Test Using Larger Than Block-Size Key - Hash Key First", "60e43159 1ee0b67f 0d8a26aa cbf5b77f 8e0bc621 3728c514 0546040f 0ee37f54"},
	} {
		macs(t, c.key, c.s, bytesOf(c.digits))
	}
}

func TestP41MacOfEachLength(t *testing.T) {
	long := strings.Repeat("long", 20000)
	for n := range 200 {
		for i, key := range ofLength(n) {
			for _, m := range []int{0, 1, 31, 32, 55, 56, 63, 64, 65, n} {
				s := ofLength(m)[i%5]
				macs(t, key, s, theMac(key, s))
				macs(t, s, key, theMac(s, key))
			}
		}
	}
	macs(t, long, "", theMac(long, ""))
	macs(t, "", long, theMac("", long))
	macs(t, long, long, theMac(long, long))
}

// A key that has bytes 0 behind it, up to a block and further.
func TestP41MacOfKeysWithZeros(t *testing.T) {
	for _, n := range []int{0, 1, 31, 32, 33, 62, 63, 64, 65, 100} {
		for zeros := range 70 {
			key := strings.Repeat("k", n) + strings.Repeat("\x00", zeros)
			macs(t, key, "abc", theMac(key, "abc"))
		}
	}
}

func TestP42StretchOfExamples(t *testing.T) {
	stretches(t, "password", "salt", 1, 32, bytesOf("120fb6cf fcf8b32c 43e72252 56c4f837 a86548c9 2ccc3548 0805987c b70be17b"))
	stretches(t, "password", "salt", 2, 32, bytesOf("ae4d0c95 af6b46d3 2d0adff9 28f06dd0 2a303f8e f3c251df d6e2d85a 95474c43"))
	stretches(t, "passwd", "salt", 1, 64, bytesOf("55ac046e 56e3089f ec1691c2 2544b605 f9418521 6dde0465 e68b9d57 c20dacbc 49ca9ccc f179b645 991664b3 9d77ef31 7c71b845 b1e30bd5 09112041 d3a19783"))
}

func TestP42StretchOfEachNumber(t *testing.T) {
	for rounds := 1; rounds <= api.MaxRounds; rounds++ {
		for n := 1; n <= api.MaxStretch; n++ {
			stretches(t, "password", "salt", rounds, n, theStretch("password", "salt", rounds, n))
		}
	}
}

func TestP42StretchOfEachLength(t *testing.T) {
	texts := samples()
	for i, pass := range texts {
		for _, salt := range []string{"", "salt", texts[len(texts)-1-i], strings.Repeat("s", i)} {
			stretches(t, pass, salt, 3, 70, theStretch(pass, salt, 3, 70))
		}
	}
	long := strings.Repeat("long", 20000)
	stretches(t, long, long, api.MaxRounds, api.MaxStretch, theStretch(long, long, api.MaxRounds, api.MaxStretch))
}

func TestP42StretchRefuses(t *testing.T) {
	for _, rounds := range notRounds {
		for _, n := range []int{1, 31, 32, 33, 64, 96} {
			refuses(t, rounds, n, api.ErrHashRounds)
		}
	}
	for _, n := range notLengths {
		for _, rounds := range []int{1, 2, 64} {
			refuses(t, rounds, n, api.ErrHashLong)
		}
	}
}

// Of both the rounds are named first.
func TestP42StretchRefusesBoth(t *testing.T) {
	for _, rounds := range notRounds {
		for _, n := range notLengths {
			refuses(t, rounds, n, api.ErrHashRounds)
		}
	}
}

// same: Same answers want, whichever stands first.
func same(t *testing.T, a, b string, want bool) {
	t.Helper()
	if hash.Same(a, b) != want || hash.Same(b, a) != want {
		t.Errorf("%.40x, %.40x: want %t", a, b, want)
	}
}

func TestP43Same(t *testing.T) {
	all := samples()
	for _, a := range all {
		same(t, a, strings.Clone(a), true)
		for _, b := range all {
			same(t, a, b, a == b)
		}
	}
	same(t, "", "", true)
	same(t, "", "\x00", false)
	same(t, "a", "A", false)
	same(t, "ab", "ba", false)
	same(t, "é", "e\xcc\x81", false)
}

// Texts that differ in one byte alone, whichever it is, and in one bit of it.
func TestP43SameButOneByte(t *testing.T) {
	for _, n := range []int{1, 2, 3, 32, 64, 65, 300} {
		a := strings.Repeat("a", n)
		for i := range n {
			for bit := range 8 {
				b := a[:i] + string([]byte{'a' ^ 1<<bit}) + a[i+1:]
				same(t, a, b, false)
				same(t, b, strings.Clone(b), true)
			}
		}
		// In two bytes by the same bits, which must not make up for one another.
		if n > 1 {
			same(t, a, "b"+a[1:n-1]+"b", false)
		}
	}
}

// Texts that differ in their length alone: one is the other's beginning, whatever stands behind.
func TestP43SameButTheLength(t *testing.T) {
	for _, n := range []int{0, 1, 31, 32, 63, 64, 255, 256} {
		a := strings.Repeat("a", n)
		for _, c := range []string{"\x00", "a", "\xff"} {
			for _, more := range []int{1, 2, 64, 255, 256, 257, 65536} {
				same(t, a, a+strings.Repeat(c, more), false)
			}
		}
		zeros := strings.Repeat("\x00", n)
		same(t, zeros, zeros+"\x00", false)
		same(t, a+"\x00", a, false)
	}
}

// A mac is told by the sum alone: laid here by Sum, as the chapter lays it.
func TestP44MacByTheSum(t *testing.T) {
	for _, key := range samples() {
		k := key
		if len(k) > 64 {
			k = hash.Sum(k)
		}
		k += strings.Repeat("\x00", 64-len(k))
		outer, inner := []byte(k), []byte(k)
		for i := range len(k) {
			outer[i] ^= 92
			inner[i] ^= 54
		}
		for _, s := range []string{"", "abc", key} {
			macs(t, key, s, hash.Sum(string(outer)+hash.Sum(string(inner)+s)))
		}
	}
}

func TestP44MacOfKeys(t *testing.T) {
	for _, key := range samples() {
		if len(key) > 64 {
			macs(t, key, "abc", hash.Mac(hash.Sum(key), "abc"))
			continue
		}
		for zeros := range 65 - len(key) {
			macs(t, key+strings.Repeat("\x00", zeros), "abc", hash.Mac(key, "abc"))
		}
		// A block is full: another byte 0 makes another key.
		if hash.Mac(key+strings.Repeat("\x00", 65-len(key)), "abc") == hash.Mac(key, "abc") {
			t.Errorf("%.40x: the same with 65 bytes", key)
		}
	}
}

func TestP44FewerBytesBeginMore(t *testing.T) {
	for _, rounds := range []int{1, 2, 64} {
		most, e := hash.Stretch("password", "salt", rounds, api.MaxStretch)
		if len(most) != api.MaxStretch || e != api.OK {
			t.Fatalf("%d: %d bytes, %d", rounds, len(most), e)
		}
		for n := 1; n <= api.MaxStretch; n++ {
			stretches(t, "password", "salt", rounds, n, most[:n])
		}
	}
}

func TestP44OneRoundIsOneMac(t *testing.T) {
	for _, pass := range samples() {
		for _, salt := range []string{"", "salt", "\x00\x00\x00\x01", strings.Repeat("s", 61)} {
			one, two, three := hash.Mac(pass, salt+"\x00\x00\x00\x01"), hash.Mac(pass, salt+"\x00\x00\x00\x02"), hash.Mac(pass, salt+"\x00\x00\x00\x03")
			stretches(t, pass, salt, 1, 96, one+two+three)
			stretches(t, pass, salt, 1, 33, one+two[:1])
			stretches(t, pass, salt, 1, 31, one[:31])
		}
	}
}

// R1: each call ends at any text and any number, and none panics; another program answers the same.
func FuzzR1EndsAtAnyText(f *testing.F) {
	r := rand.New(rand.NewSource(4))
	for _, n := range edges {
		f.Add(anyBytes(r, n), anyBytes(r, 64-n%64), n, n/2)
	}
	f.Add("a", "a", 64, 96)
	f.Add("a", "b", 0, 0)
	f.Add("a", "b", -1, 1<<62)
	f.Fuzz(func(t *testing.T, a, b string, rounds, n int) {
		sums(t, a, theSum(a))
		macs(t, a, b, theMac(a, b))
		same(t, a, b, a == b)
		if rounds < 1 || rounds > api.MaxRounds {
			refuses(t, rounds, n, api.ErrHashRounds)
		} else if n < 1 || n > api.MaxStretch {
			refuses(t, rounds, n, api.ErrHashLong)
		} else {
			stretches(t, a, b, rounds, n, theStretch(a, b, rounds, n))
		}
	})
}

// R5: nothing is kept from call to call, a refused one least of all, nor from calls that run at the same time.
func TestR5NothingIsKept(t *testing.T) {
	sum, mac, stretched := theSum("abc"), theMac("key", "abc"), theStretch("password", "salt", 2, 40)
	for i := range 8 {
		t.Run("", func(t *testing.T) {
			t.Parallel()
			for range 20 {
				sums(t, "abc", sum)
				hash.Sum(strings.Repeat("x", 50*i))
				refuses(t, 0, 32, api.ErrHashRounds)
				macs(t, "key", "abc", mac)
				refuses(t, 2, 97, api.ErrHashLong)
				stretches(t, "password", "salt", 2, 40, stretched)
				same(t, "abc", "abd", false)
				same(t, "abc", "abc", true)
			}
		})
	}
}
