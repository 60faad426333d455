package impl

import (
	"cmp"
	"errors"
	"math"
	"strings"
)

const (
	wordBits  = 32
	intBits   = 64
	sumStart  = 1
	sumFactor = 31
	sumPrime  = 65521
	hexDigits = "0123456789abcdef"
)

var (
	errRange = errors.New("out of its bounds")
	errSize  = errors.New("of another length")
	errForm  = errors.New("of no such form")
	errSum   = errors.New("not the sum of what is ahead")
	errEnd   = errors.New("cut off")
)

// argumentError names the argument, or the part of one, that a fault lies in; what it wraps is the kind of fault.
type argumentError struct {
	name string
	kind error
}

func (e argumentError) Error() string { return e.name + " is " + e.kind.Error() }

func (e argumentError) Unwrap() error { return e.kind }

// codeFrom answers the code that an error stands for.
func codeFrom(err error) int {
	switch {
	case err == nil:
		return OK
	case errors.Is(err, errRange):
		return ErrRange
	case errors.Is(err, errSize):
		return ErrSize
	case errors.Is(err, errForm):
		return ErrForm
	case errors.Is(err, errSum):
		return ErrSum
	case errors.Is(err, errEnd):
		return ErrEnd
	}
	return ErrBad
}

// inside finds fault with an argument that is not from low to high.
func inside(name string, v, low, high int) error {
	if v < low || v > high {
		return argumentError{name, errRange}
	}
	return nil
}

// checkWord finds fault with what is no word.
func checkWord(name string, word int) error { return inside(name, word, 0, math.MaxUint32) }

// checkField finds fault with a field that is not one of a word.
func checkField(word, low, count int) error {
	return cmp.Or(
		checkWord("word", word),
		inside("low", low, 0, wordBits-1),
		inside("count", count, 1, wordBits-low),
	)
}

// lowBits answers a number of which just the lowest count bits are 1.
func lowBits(count int) int { return 1<<count - 1 }

// FieldOf answers the number that bits low to low + count - 1 of a word are.
func FieldOf(word, low, count int) (int, int) {
	if err := checkField(word, low, count); err != nil {
		return 0, codeFrom(err)
	}
	return word >> low & lowBits(count), OK
}

// PutField answers the word with the lowest count bits of v laid at low.
func PutField(word, low, count, v int) (int, int) {
	if err := checkField(word, low, count); err != nil {
		return 0, codeFrom(err)
	}
	mask := lowBits(count)
	return word&^(mask<<low) | (v&mask)<<low, OK
}

// SignOf answers the lowest count bits of v as a number with a sign.
func SignOf(v, count int) (int, int) {
	if err := inside("count", count, 1, intBits); err != nil {
		return 0, codeFrom(err)
	}
	// The way up drops the upper bits, the way down spreads the sign.
	return v << (intBits - count) >> (intBits - count), OK
}

// width is a number of one of the lengths that bytes are laid and taken in.
type width interface {
	uint8 | uint16 | uint32 | uint64
}

// spread answers the n bytes that v has, the lowest one first.
func spread[W width](v W, n int) string {
	out := make([]byte, n)
	for i := range out {
		out[i] = byte(v >> (8 * i))
	}
	return string(out)
}

// gather answers the number whose bytes t is, the lowest one first.
func gather[W width](t string) W {
	var v W
	for i := range len(t) {
		v |= W(t[i]) << (8 * i)
	}
	return v
}

// checkWidth finds fault with what is no width's number of bytes.
func checkWidth(n int) error {
	switch n {
	case 1, 2, 4, 8:
		return nil
	}
	return argumentError{"n", errRange}
}

// PutLittle answers the lowest n bytes of v, the lowest one first.
func PutLittle(v, n int) (string, int) {
	if err := checkWidth(n); err != nil {
		return "", codeFrom(err)
	}
	switch n {
	case 1:
		return spread(uint8(v), n), OK
	case 2:
		return spread(uint16(v), n), OK
	case 4:
		return spread(uint32(v), n), OK
	}
	return spread(uint64(v), n), OK
}

// cutWidth answers the n bytes of t from at on.
func cutWidth(t string, at, n int) (string, error) {
	if err := checkWidth(n); err != nil {
		return "", err
	}
	// Not at + n: that might wrap.
	if at < 0 || at > len(t)-n {
		return "", argumentError{"t", errSize}
	}
	return t[at : at+n], nil
}

// TakeLittle answers the number that the n bytes of t from at on are, the lowest one first.
func TakeLittle(t string, at, n int) (int, int) {
	if len(t) > MaxText {
		return 0, ErrLong
	}
	cut, err := cutWidth(t, at, n)
	if err != nil {
		return 0, codeFrom(err)
	}
	switch n {
	case 1:
		return int(gather[uint8](cut)), OK
	case 2:
		return int(gather[uint16](cut)), OK
	case 4:
		return int(gather[uint32](cut)), OK
	}
	return int(gather[uint64](cut)), OK
}

// SumOf answers the sum of a text, 0 of one that is too long.
func SumOf(t string) int {
	if len(t) > MaxText {
		return 0
	}
	sum := sumStart
	for i := range len(t) {
		sum = (sumFactor*sum + int(t[i])) % sumPrime
	}
	return sum
}

// HexOf answers two digits a byte, nothing of a text whose digits would be too long a text.
func HexOf(t string) string {
	if len(t) > MaxText/2 {
		return ""
	}
	out := make([]byte, 0, 2*len(t))
	for i := range len(t) {
		out = append(out, hexDigits[t[i]>>4], hexDigits[t[i]&15])
	}
	return string(out)
}

// BytesOf answers the bytes whose digits t is.
func BytesOf(t string) (string, int) {
	if len(t) > MaxText {
		return "", ErrLong
	}
	if len(t)%2 != 0 {
		return "", ErrForm
	}
	out := make([]byte, len(t)/2)
	for i := range out {
		upper := strings.IndexByte(hexDigits, t[2*i])
		lower := strings.IndexByte(hexDigits, t[2*i+1])
		if upper < 0 || lower < 0 {
			return "", ErrForm
		}
		out[i] = byte(upper<<4 | lower)
	}
	return string(out), OK
}
