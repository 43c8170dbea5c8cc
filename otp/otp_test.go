package otp_test

import (
	"math"
	"math/rand"
	"strings"
	"testing"

	"seneschal/api"
	"seneschal/otp"
)

func TestP51CodesOfRFC6238(t *testing.T) {
	for step, want := range map[int]string{1: "119246", 37037036: "084774", 37037037: "062674", 41152263: "819424", 66666666: "698825", 666666666: "737706"} {
		codeIs(t, rfc, step, want)
	}
}

func TestP51CodeOfEachSecretAndStep(t *testing.T) {
	for _, secret := range secrets() {
		for _, step := range anySteps {
			codeIs(t, secret, step, theCode(secret, step))
		}
		for step := -300; step < 300; step++ {
			codeIs(t, secret, step, theCode(secret, step))
		}
	}
}

// Each of the step's eight bytes counts, and its highest bit with them.
func TestP51CodeOfEachBit(t *testing.T) {
	for bit := range 64 {
		step := int(uint64(1) << bit)
		codeIs(t, rfc, step, theCode(rfc, step))
		codeIs(t, rfc, ^step, theCode(rfc, ^step))
	}
}

func TestP51CodeWithNoughtsAhead(t *testing.T) {
	for step, want := range noughts {
		codeIs(t, rfc, step, want)
	}
}

func TestP52FindOfExamples(t *testing.T) {
	s := rfc
	code := otp.Code(s, 5)
	finds(t, s, code, 6, 1, 5)
	misses(t, s, code, 6, 0)
	finds(t, s, code, 4, 1, 5)
	misses(t, s, code, -1, 1)
	misses(t, s, code, 5, 11)
}

// The codes of each step about a window, the ones ahead of it and behind it too.
func TestP52FindOfEachWindow(t *testing.T) {
	for _, secret := range []string{rfc, "", strings.Repeat("s", 65)} {
		for _, step := range goodSteps {
			for window := 0; window <= api.MaxWindow; window++ {
				for n := step - window - 2; n <= step+window+2; n++ {
					asTheOther(t, secret, theCode(secret, n), step, window)
				}
			}
		}
	}
}

// Both ends of a window are in it, and what lies next to them is not.
func TestP52FindAtBothEnds(t *testing.T) {
	for _, step := range []int{11, 12, 1000, api.MaxTick - 1, api.MaxTick} {
		for window := 0; window <= api.MaxWindow; window++ {
			first, last := step-window, step+window
			finds(t, rfc, theCode(rfc, first), step, window, first)
			finds(t, rfc, theCode(rfc, last), step, window, last)
			misses(t, rfc, theCode(rfc, first-1), step, window)
			misses(t, rfc, theCode(rfc, last+1), step, window)
		}
	}
}

// Step 0 is in a window that reaches below it, and no step below is.
func TestP52FindBelowZero(t *testing.T) {
	for step := range api.MaxWindow + 1 {
		for window := step; window <= api.MaxWindow; window++ {
			finds(t, rfc, theCode(rfc, 0), step, window, 0)
			for n := step - window; n < 0; n++ {
				misses(t, rfc, theCode(rfc, n), step, window)
			}
		}
	}
}

// Two steps have the code, one of them below 0: the other one is found where the window has it, else none.
func TestP52FindOfPairsBelowZero(t *testing.T) {
	for _, p := range belowZero {
		code := theCode(p.secret, p.early)
		if code != theCode(p.secret, p.late) {
			t.Fatalf("%v: two codes", p)
		}
		for step := range 20 {
			for window := 0; window <= api.MaxWindow; window++ {
				if step-window <= p.late && p.late <= step+window {
					finds(t, p.secret, code, step, window, p.late)
				} else {
					misses(t, p.secret, code, step, window)
				}
			}
		}
	}
}

// Two steps have the code: the greater one of those in the window, however near the other one is.
func TestP52FindOfPairs(t *testing.T) {
	for _, p := range pairs {
		code := theCode(p.secret, p.early)
		if code != theCode(p.secret, p.late) {
			t.Fatalf("%v: two codes", p)
		}
		for step := max(p.early-11, 0); step <= min(p.late+11, api.MaxTick); step++ {
			for window := 0; window <= api.MaxWindow; window++ {
				switch {
				case step-window <= p.late && p.late <= step+window:
					finds(t, p.secret, code, step, window, p.late)
				case step-window <= p.early && p.early <= step+window:
					finds(t, p.secret, code, step, window, p.early)
				default:
					misses(t, p.secret, code, step, window)
				}
			}
		}
	}
}

// A code with noughts ahead is found with them alone.
func TestP52FindWithNoughtsAhead(t *testing.T) {
	for n, code := range noughts {
		for window := 0; window <= api.MaxWindow; window++ {
			finds(t, rfc, code, n, window, n)
			finds(t, rfc, code, n-window, window, n)
			for _, bad := range notCodes(code) {
				misses(t, rfc, bad, n, window)
			}
		}
	}
}

func TestP52FindRefusesSteps(t *testing.T) {
	for _, step := range notSteps {
		for window := 0; window <= api.MaxWindow; window++ {
			misses(t, rfc, theCode(rfc, step), step, window)
			misses(t, rfc, theCode(rfc, 0), step, window)
			misses(t, rfc, theCode(rfc, step+window), step, window)
			misses(t, rfc, theCode(rfc, step-window), step, window)
			misses(t, rfc, theCode(rfc, api.MaxTick), step, window)
		}
	}
}

func TestP52FindRefusesWindows(t *testing.T) {
	for _, window := range notWindows {
		for _, step := range goodSteps {
			for _, n := range []int{step, 0, step + 1, step - 1, step + window, step - window} {
				misses(t, rfc, theCode(rfc, n), step, window)
			}
		}
	}
}

func TestP52FindRefusesTexts(t *testing.T) {
	for _, secret := range []string{rfc, ""} {
		for _, step := range goodSteps {
			for _, bad := range notCodes(theCode(secret, step)) {
				for _, window := range []int{0, 1, api.MaxWindow} {
					misses(t, secret, bad, step, window)
				}
			}
		}
	}
}

// More than one thing is wrong: the answer is none all the same.
func TestP52FindRefusesMore(t *testing.T) {
	for _, step := range notSteps {
		for _, window := range notWindows {
			for _, code := range append(notCodes(theCode(rfc, step)), theCode(rfc, step), theCode(rfc, 0)) {
				misses(t, rfc, code, step, window)
			}
		}
		for _, bad := range notCodes(theCode(rfc, step)) {
			misses(t, rfc, bad, step, 1)
		}
	}
	for _, window := range notWindows {
		for _, bad := range notCodes(theCode(rfc, 5)) {
			misses(t, rfc, bad, 5, window)
		}
	}
}

// Another secret's code is none.
func TestP52FindOfAnotherSecret(t *testing.T) {
	for _, a := range secrets() {
		for _, b := range secrets() {
			for _, step := range goodSteps {
				asTheOther(t, b, theCode(a, step), step, 1)
			}
		}
	}
}

func TestP53SixDigits(t *testing.T) {
	for _, secret := range secrets() {
		for _, step := range anySteps {
			code := otp.Code(secret, step)
			if len(code) != 6 || strings.Trim(code, "0123456789") != "" {
				t.Errorf("%q, %d: %q", secret, step, code)
			}
		}
	}
}

func TestP53OwnCodeIsFound(t *testing.T) {
	for _, secret := range secrets() {
		for _, step := range goodSteps {
			for window := 0; window <= api.MaxWindow; window++ {
				n, ok := otp.Find(secret, otp.Code(secret, step), step, window)
				if !ok || n < step || n > step+window || otp.Code(secret, n) != otp.Code(secret, step) {
					t.Errorf("%q, %d, %d: %d, %t", secret, step, window, n, ok)
				}
			}
		}
	}
	for _, p := range pairs {
		finds(t, p.secret, otp.Code(p.secret, p.early), min(p.early, api.MaxTick), api.MaxWindow, within(p))
	}
}

// within: which step of a pair is found from its earlier one on, with the widest window.
func within(p pair) int {
	if p.late <= min(p.early, api.MaxTick)+api.MaxWindow {
		return p.late
	}
	return p.early
}

// With a wider window what is found is not earlier, and is not lost.
func TestP53WiderWindows(t *testing.T) {
	for _, p := range append(pairs, belowZero...) {
		code := otp.Code(p.secret, p.late)
		for step := max(p.early-11, 0); step <= min(p.late+11, api.MaxTick); step++ {
			before, found := otp.Find(p.secret, code, step, 0)
			for window := 1; window <= api.MaxWindow; window++ {
				n, ok := otp.Find(p.secret, code, step, window)
				if found && !ok || n < before {
					t.Errorf("%v, %d, %d: %d, %t; %d, %t before", p, step, window, n, ok, before, found)
				}
				before, found = n, ok
			}
		}
	}
}

// What is not found in a window is no code of any of its steps.
func TestP53NotFoundIsNoCode(t *testing.T) {
	for _, step := range goodSteps {
		for window := 0; window <= api.MaxWindow; window++ {
			for n := step - 12; n <= step+12; n++ {
				code := otp.Code(rfc, n)
				if _, ok := otp.Find(rfc, code, step, window); ok {
					continue
				}
				for m := max(step-window, 0); m <= step+window; m++ {
					if otp.Code(rfc, m) == code {
						t.Errorf("%d, %d: %q of %d not found", step, window, code, m)
					}
				}
			}
		}
	}
}

// R1: each call ends at any text and any number, and none panics; another program answers the same.
func FuzzR1EndsAtAnything(f *testing.F) {
	r := rand.New(rand.NewSource(5))
	for _, step := range anySteps {
		f.Add(rfc, theCode(rfc, step), step, r.Intn(13)-1)
	}
	for _, p := range pairs {
		f.Add(p.secret, theCode(p.secret, p.early), p.late, 10)
	}
	f.Add("", "", 0, 0)
	f.Add("\x00", "000000", math.MinInt, math.MaxInt)
	f.Add("a", "é", math.MaxInt, math.MinInt)
	f.Fuzz(func(t *testing.T, secret, code string, step, window int) {
		codeIs(t, secret, step, theCode(secret, step))
		asTheOther(t, secret, code, step, window)
		asTheOther(t, secret, theCode(secret, step), step, window)
	})
}

// R5: nothing is kept from call to call, a refused one least of all, nor from calls that run at the same time.
func TestR5NothingIsKept(t *testing.T) {
	code := theCode(rfc, 5)
	for i := range 8 {
		t.Run("", func(t *testing.T) {
			t.Parallel()
			for range 20 {
				codeIs(t, rfc, 5, code)
				otp.Code(rfc, i)
				finds(t, rfc, code, 6, 1, 5)
				misses(t, rfc, code, -1, 1)
				misses(t, rfc, code, 6, 0)
				finds(t, rfc, code, 4, 1, 5)
				misses(t, "another", code, 5, 1)
				finds(t, rfc, code, 5, 10, 5)
			}
		})
	}
}
