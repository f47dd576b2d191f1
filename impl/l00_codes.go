package impl

import (
	"strconv"
	"strings"
)

const (
	MaxText = 65536
	MaxList = 4096
	MaxName = 40

	OK          = 0
	ErrBad      = 1
	ErrLong     = 2
	ErrForm     = 3
	ErrRange    = 4
	ErrNone     = 5
	ErrMany     = 6
	ErrFull     = 7
	ErrSum      = 8
	ErrTwice    = 9
	ErrType     = 10
	ErrZero     = 11
	ErrOver     = 12
	ErrWait     = 13
	ErrDeadlock = 14
	ErrDown     = 15
	ErrDepth    = 16
	ErrKey      = 17
	ErrColumn   = 18
	ErrTx       = 19

	maxDigits = 18
)

var codeWords = [...]string{
	OK:          "ok",
	ErrBad:      "bad",
	ErrLong:     "long",
	ErrForm:     "form",
	ErrRange:    "range",
	ErrNone:     "none",
	ErrMany:     "many",
	ErrFull:     "full",
	ErrSum:      "sum",
	ErrTwice:    "twice",
	ErrType:     "type",
	ErrZero:     "zero",
	ErrOver:     "over",
	ErrWait:     "wait",
	ErrDeadlock: "deadlock",
	ErrDown:     "down",
	ErrDepth:    "depth",
	ErrKey:      "key",
	ErrColumn:   "column",
	ErrTx:       "tx",
}

func NameOK(t string) bool {
	if len(t) == 0 || len(t) > MaxName || isDigit(t[0]) {
		return false
	}
	for i := range len(t) {
		if !isNameLetter(t[i]) && !isDigit(t[i]) {
			return false
		}
	}
	return true
}

func CodeWord(code int) string {
	if code < 0 || code >= len(codeWords) {
		return ""
	}
	return codeWords[code]
}

func CodeOf(word string) int {
	for code, w := range codeWords {
		if w == word {
			return code
		}
	}
	return -1
}

// readNumberText: the way back tells what is read as a number, but is not told so, as digits with a nought ahead are.
func readNumberText(t string) (int, bool) {
	n, err := strconv.Atoi(t)
	return n, err == nil && strconv.Itoa(n) == t && len(strings.TrimPrefix(t, "-")) <= maxDigits
}

func isSmallLetter[C byte | rune](c C) bool { return 'a' <= c && c <= 'z' }

func isNameLetter(c byte) bool { return isSmallLetter(c) || 'A' <= c && c <= 'Z' || c == '_' }

func isDigit[C byte | rune](c C) bool { return '0' <= c && c <= '9' }
