package tests

import (
	"strings"
	"testing"

	"loop.example/g00654/impl"
)

// codeTable has each code's constant at its number's place, and the word that the document gives it.
var codeTable = []struct {
	constant int
	word     string
}{
	{impl.OK, "ok"}, {impl.ErrBad, "bad"}, {impl.ErrLong, "long"}, {impl.ErrForm, "form"},
	{impl.ErrRange, "range"}, {impl.ErrNone, "none"}, {impl.ErrMany, "many"}, {impl.ErrFull, "full"},
	{impl.ErrSize, "size"}, {impl.ErrSum, "sum"}, {impl.ErrCode, "code"}, {impl.ErrAlign, "align"},
	{impl.ErrPage, "page"}, {impl.ErrPerm, "perm"}, {impl.ErrStack, "stack"}, {impl.ErrEcall, "ecall"},
	{impl.ErrBreak, "break"}, {impl.ErrFrame, "frame"}, {impl.ErrReturn, "return"}, {impl.ErrJump, "jump"},
	{impl.ErrCall, "call"}, {impl.ErrReg, "reg"}, {impl.ErrEnd, "end"}, {impl.ErrSymbol, "symbol"},
	{impl.ErrClash, "clash"}, {impl.ErrReach, "reach"}, {impl.ErrKind, "kind"}, {impl.ErrDepth, "depth"},
	{impl.ErrBusy, "busy"}, {impl.ErrTop, "top"}, {impl.ErrShadow, "shadow"}, {impl.ErrDone, "done"},
}

func TestConstants(t *testing.T) {
	if impl.MaxText != 65536 || impl.MaxList != 4096 || impl.MaxName != 20 {
		t.Error("limits", impl.MaxText, impl.MaxList, impl.MaxName)
	}
	if len(codeTable) != 32 {
		t.Fatal("the document has 32 codes, not", len(codeTable))
	}
	for number, row := range codeTable {
		if row.constant != number {
			t.Error("the code of", row.word, "is", row.constant, "not", number)
		}
	}
}

func TestCodeWordsInTheirOrder(t *testing.T) {
	for number, row := range codeTable {
		if got := impl.CodeWord(number); got != row.word {
			t.Errorf("CodeWord(%d) = %q, want %q", number, got, row.word)
		}
		if got := impl.CodeOf(row.word); got != number {
			t.Errorf("CodeOf(%q) = %d, want %d", row.word, got, number)
		}
	}
}

func TestCodeWordOfOtherNumbers(t *testing.T) {
	for _, number := range []int{-1, 32, 33, 256, 1 << 32, leastInt, greatestInt} {
		if got := impl.CodeWord(number); got != "" {
			t.Errorf("CodeWord(%d) = %q", number, got)
		}
	}
}

func TestCodeOfOtherTexts(t *testing.T) {
	others := []string{"", " ", "OK", "Ok", "o", "okk", " ok", "ok ", "ok\n", "ok\x00", "badlong", "0", "31", "\xff",
		strings.Repeat("ok", impl.MaxText/2), strings.Repeat("a", impl.MaxText+1)}
	for _, row := range codeTable {
		others = append(others, row.word[:len(row.word)-1], row.word+"x", strings.ToUpper(row.word))
	}
	for _, text := range others {
		if got := impl.CodeOf(text); got != -1 {
			t.Errorf("CodeOf(%.20q) = %d", text, got)
		}
	}
}

func TestNameBytes(t *testing.T) {
	const letters = "abcdefghijklmnopqrstuvwxyzABCDEFGHIJKLMNOPQRSTUVWXYZ_"
	for b := range 256 {
		one := string([]byte{byte(b)})
		letter := strings.Contains(letters, one)
		digit := strings.Contains("0123456789", one)
		if impl.NameOK(one) != letter || impl.NameOK(one+"a1") != letter {
			t.Errorf("a name that begins with %q", one)
		}
		for _, name := range []string{"a" + one, "a" + one + "b", strings.Repeat("_", impl.MaxName-1) + one} {
			if impl.NameOK(name) != (letter || digit) {
				t.Errorf("NameOK(%q) = %v", name, impl.NameOK(name))
			}
		}
	}
}

func TestNameLengths(t *testing.T) {
	for n := range 64 {
		want := n >= 1 && n <= impl.MaxName
		for _, c := range []string{"a", "Z", "_"} {
			if got := impl.NameOK(strings.Repeat(c, n)); got != want {
				t.Errorf("NameOK of %d times %q = %v", n, c, got)
			}
		}
		if got := impl.NameOK("a" + strings.Repeat("9", n)); got != (n < impl.MaxName) {
			t.Errorf("NameOK of a and %d digits = %v", n, got)
		}
	}
	for _, name := range []string{"é", "aé", "a b", "a-b", "a.b", "\x00", "a\x00", strings.Repeat("a", impl.MaxText), strings.Repeat("a", impl.MaxText+1)} {
		if impl.NameOK(name) {
			t.Errorf("NameOK(%.30q)", name)
		}
	}
}
