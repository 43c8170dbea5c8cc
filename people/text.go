package people

import (
	"strconv"
	"strings"

	"seneschal/api"
)

// How the principals that are users begin, and those that are clients.
const (
	userPrefix   = "u:"
	clientPrefix = "c:"
)

// How many digits a client's secret has, if it has one.
const sizeSecret = 64

// Name, Text, Scope and Principal tell whether a text may be one.
func Name(s string) bool { return isMade(s, api.MaxName, ofName) }

func Text(s string) bool { return isMade(s, api.MaxText, ofText) }

func Scope(s string) bool { return isMade(s, api.MaxScope, ofScope) }

func Principal(s string) bool {
	name, isUser := strings.CutPrefix(s, userPrefix)
	id, isClient := strings.CutPrefix(s, clientPrefix)
	return isUser && Name(name) || isClient && Name(id)
}

// isMade: has a text 1 to most bytes, all of them of one sort?
func isMade(s string, most int, of func(byte) bool) bool {
	if s == "" || len(s) > most {
		return false
	}
	for i := range len(s) {
		if !of(s[i]) {
			return false
		}
	}
	return true
}

func ofName(b byte) bool {
	return b >= 'a' && b <= 'z' || b >= '0' && b <= '9' || b == '.' || b == '_' || b == '-'
}

func ofText(b byte) bool { return b >= 33 && b <= 126 }

func ofScope(b byte) bool { return ofName(b) || b == ':' }

func ofHex(b byte) bool { return b >= '0' && b <= '9' || b >= 'a' && b <= 'f' }

// Form is the row of texts; Texts reads it.
func Form(l []string) string {
	var b strings.Builder
	for _, s := range l {
		b.WriteString(strconv.Itoa(len(s)))
		b.WriteByte(':')
		b.WriteString(s)
	}
	return b.String()
}

func Texts(s string) ([]string, bool) {
	var l []string
	for s != "" {
		digits, behind, ends := strings.Cut(s, ":")
		n, ok := number(digits)
		if !ends || !ok || n > len(behind) {
			return nil, false
		}
		l = append(l, strings.Clone(behind[:n]))
		s = behind[n:]
	}
	return l, true
}

// number: the one that decimal digits tell, none of them a nought ahead of others.
func number(digits string) (int, bool) {
	n := 0
	for i := range len(digits) {
		if digits[i] < '0' || digits[i] > '9' {
			return 0, false
		}
		n = n*10 + int(digits[i]-'0')
	}
	// One that wrapped round is written with other digits.
	return n, strconv.Itoa(n) == digits
}
