// Package impl is a house of design and manufacture, a file a layer.
package impl

import (
	"cmp"
	"strconv"
)

const (
	MaxText = 65536
	MaxList = 4096
	MaxName = 40
)

const (
	OK = iota
	ErrBad
	ErrLong
	ErrForm
	ErrSyntax
	ErrRange
	ErrName
	ErrTwice
	ErrNone
	ErrLoop
	ErrMany
	ErrZero
	ErrOver
	ErrState
	ErrUnit
	ErrCore
	ErrGouge
	ErrKind
	ErrFull
	ErrSum

	codeCount = iota
)

// codeWords has the words side by side, for those who look for one of them.
var codeWords [codeCount]string

func init() {
	for code := range codeCount {
		codeWords[code] = wordOf(code)
	}
}

func wordOf(code int) string {
	switch code {
	case OK:
		return "ok"
	case ErrBad:
		return "bad"
	case ErrLong:
		return "long"
	case ErrForm:
		return "form"
	case ErrSyntax:
		return "syntax"
	case ErrRange:
		return "range"
	case ErrName:
		return "name"
	case ErrTwice:
		return "twice"
	case ErrNone:
		return "none"
	case ErrLoop:
		return "loop"
	case ErrMany:
		return "many"
	case ErrZero:
		return "zero"
	case ErrOver:
		return "over"
	case ErrState:
		return "state"
	case ErrUnit:
		return "unit"
	case ErrCore:
		return "core"
	case ErrGouge:
		return "gouge"
	case ErrKind:
		return "kind"
	case ErrFull:
		return "full"
	case ErrSum:
		return "sum"
	}
	return ""
}

func NameOK(t string) bool {
	if len(t) == 0 || len(t) > MaxName {
		return false
	}
	for at, r := range t {
		if !nameLetter(r) && (at == 0 || !digit(r)) {
			return false
		}
	}
	return true
}

// Bytes that are no right encoding need no case of their own: a range over a
// text gives 0xFFFD for them, and that is no letter.
func nameLetter(r rune) bool {
	switch {
	case r == '_', between(r, 'a', 'z'), between(r, 'A', 'Z'):
		return true
	case r == 0xD7, r == 0xF7:
		return false
	}
	return between(r, 0xC0, 0x24F) || between(r, 0x391, 0x3C9) || between(r, 0x410, 0x44F)
}

func digit(r rune) bool { return between(r, '0', '9') }

func between[T cmp.Ordered](x, first, last T) bool { return first <= x && x <= last }

// numberOf reads more than a number's text (signs, noughts ahead) and then asks
// whether the number would be told so.
func numberOf(t string) (int, bool) {
	const firstTooLong = 1000000000000000000
	n, err := strconv.Atoi(t)
	return n, err == nil && strconv.Itoa(n) == t && magnitude(n) < firstTooLong
}

func CodeWord(code int) string { return wordOf(code) }

func CodeOf(word string) int {
	for code, w := range codeWords {
		if w == word {
			return code
		}
	}
	return -1
}
