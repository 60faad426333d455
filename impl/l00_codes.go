package impl

import (
	"strconv"
	"strings"
)

const (
	MaxText = 65536
	MaxList = 4096
	MaxName = 20

	OK        = 0
	ErrBad    = 1
	ErrLong   = 2
	ErrForm   = 3
	ErrRange  = 4
	ErrNone   = 5
	ErrMany   = 6
	ErrFull   = 7
	ErrSize   = 8
	ErrSum    = 9
	ErrCode   = 10
	ErrAlign  = 11
	ErrPage   = 12
	ErrPerm   = 13
	ErrStack  = 14
	ErrEcall  = 15
	ErrBreak  = 16
	ErrFrame  = 17
	ErrReturn = 18
	ErrJump   = 19
	ErrCall   = 20
	ErrReg    = 21
	ErrEnd    = 22
	ErrSymbol = 23
	ErrClash  = 24
	ErrReach  = 25
	ErrKind   = 26
	ErrDepth  = 27
	ErrBusy   = 28
	ErrTop    = 29
	ErrShadow = 30
	ErrDone   = 31
)

// mostDigits bounds the digits of a number's text.
const mostDigits = 18

// codeWords has the word of each code at the code's own place.
var codeWords = [...]string{
	OK:        "ok",
	ErrBad:    "bad",
	ErrLong:   "long",
	ErrForm:   "form",
	ErrRange:  "range",
	ErrNone:   "none",
	ErrMany:   "many",
	ErrFull:   "full",
	ErrSize:   "size",
	ErrSum:    "sum",
	ErrCode:   "code",
	ErrAlign:  "align",
	ErrPage:   "page",
	ErrPerm:   "perm",
	ErrStack:  "stack",
	ErrEcall:  "ecall",
	ErrBreak:  "break",
	ErrFrame:  "frame",
	ErrReturn: "return",
	ErrJump:   "jump",
	ErrCall:   "call",
	ErrReg:    "reg",
	ErrEnd:    "end",
	ErrSymbol: "symbol",
	ErrClash:  "clash",
	ErrReach:  "reach",
	ErrKind:   "kind",
	ErrDepth:  "depth",
	ErrBusy:   "busy",
	ErrTop:    "top",
	ErrShadow: "shadow",
	ErrDone:   "done",
}

// NameOK tells whether t is a name.
func NameOK(t string) bool {
	if len(t) < 1 || len(t) > MaxName || isDigit(t[0]) {
		return false
	}
	// By bytes, not by runes: a name has none beyond ASCII.
	for i := range len(t) {
		if !isLetter(t[i]) && !isDigit(t[i]) {
			return false
		}
	}
	return true
}

func isLetter(c byte) bool {
	return c >= 'a' && c <= 'z' || c >= 'A' && c <= 'Z' || c == '_'
}

func isDigit(c byte) bool { return c >= '0' && c <= '9' }

// readNumber answers the number whose text t is, or that it is none.
func readNumber(t string) (int, bool) {
	if len(strings.TrimPrefix(t, "-")) > mostDigits {
		return 0, false
	}
	// Atoi reads more than is a number's text: a plus, needless noughts, a minus ahead of a lone one.
	v, err := strconv.Atoi(t)
	if err != nil || strconv.Itoa(v) != t {
		return 0, false
	}
	return v, true
}

// blankWords answers the runs of bytes of t that are not blanks.
func blankWords(t string) []string {
	return strings.FieldsFunc(t, func(r rune) bool { return r == ' ' })
}

// CodeWord answers the word of a code, the empty text of any other number.
func CodeWord(code int) string {
	if code < 0 || code >= len(codeWords) {
		return ""
	}
	return codeWords[code]
}

// CodeOf answers the code of a word, -1 of any other text.
func CodeOf(word string) int {
	for code, w := range codeWords {
		if w == word {
			return code
		}
	}
	return -1
}
