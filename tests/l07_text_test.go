package tests

import (
	"fmt"
	"slices"
	"strings"
	"testing"

	"loop.example/g00654/impl"
)

// bodyByRule is the text of an image but for its sum, by the document's words; the image need not be right.
func bodyByRule(im impl.Image) string {
	out := "PIM1" + littleByBits(len(im.Code), 2) + im.Code + littleByBits(len(im.Data), 2) + im.Data + littleByBits(len(im.Symbols), 1)
	for _, y := range im.Symbols {
		out += littleByBits(len(y.Name), 1) + y.Name + littleByBits(y.Kind, 1) + littleByBits(y.At, 2) + littleByBits(y.Size, 2) + littleByBits(y.Frame, 1)
	}
	return out
}

// summed answers a text with its sum behind it.
func summed(body string) string { return body + littleByBits(impl.SumOf(body), 4) }

func sameImages(a, b impl.Image) bool {
	return a.Code == b.Code && a.Data == b.Data && slices.Equal(a.Symbols, b.Symbols)
}

func emptyImage(im impl.Image) bool {
	return im.Code == "" && im.Data == "" && len(im.Symbols) == 0
}

// readByRule is what ReadImage must answer, by the document's words.
func readByRule(text string) (impl.Image, int) {
	switch {
	case len(text) > 65536:
		return impl.Image{}, impl.ErrLong
	case len(text) < 8:
		return impl.Image{}, impl.ErrSize
	case text[:4] != "PIM1":
		return impl.Image{}, impl.ErrForm
	case text[len(text)-4:] != littleByBits(impl.SumOf(text[:len(text)-4]), 4):
		return impl.Image{}, impl.ErrSum
	}
	rest, cut := text[4:len(text)-4], false
	bytes := func(n int) string {
		if cut = cut || n > len(rest); cut {
			return strings.Repeat("\x00", min(n, 8))
		}
		taken := rest[:n]
		rest = rest[n:]
		return taken
	}
	number := func(n int) int { return numberByRule(bytes(n)) }
	im := impl.Image{}
	im.Code = bytes(number(2))
	im.Data = bytes(number(2))
	for count := number(1); count > 0; count-- {
		y := impl.Symbol{}
		y.Name = bytes(number(1))
		y.Kind = number(1)
		y.At = number(2)
		y.Size = number(2)
		y.Frame = number(1)
		im.Symbols = append(im.Symbols, y)
	}
	if cut {
		return impl.Image{}, impl.ErrEnd
	}
	if rest != "" {
		return impl.Image{}, impl.ErrSize
	}
	if _, _, code := imageByRule(im); code != impl.OK {
		return impl.Image{}, impl.ErrBad
	}
	return im, impl.OK
}

// checkRead holds the answer for a text against a code; with OK an image must be read.
func checkRead(t *testing.T, what, text string, code int) {
	t.Helper()
	got, gotCode := impl.ReadImage(text)
	if gotCode != code {
		t.Errorf("%s: ReadImage of %d bytes: %s, not %s", what, len(text), impl.CodeWord(gotCode), impl.CodeWord(code))
	}
	if emptyImage(got) != (gotCode != impl.OK) {
		t.Errorf("%s: ReadImage of %d bytes answers %s beside %s", what, len(text), imageString(got), impl.CodeWord(gotCode))
	}
}

func TestImagesAreReadBackFromTheirTexts(t *testing.T) {
	for i, im := range rightImages() {
		body := bodyByRule(im)
		text, code := impl.ImageText(im)
		if code != impl.OK || text != body+littleByBits(sumByRule(body), 4) {
			t.Errorf("image %d: ImageText = %x, %d", i, text, code)
		}
		got, code := impl.ReadImage(text)
		if code != impl.OK || !sameImages(got, im) {
			t.Errorf("image %d is read back as %s, %s", i, imageString(got), impl.CodeWord(code))
		}
	}
}

func TestAnyImageIsReadBack(t *testing.T) {
	d := dice(13)
	for range 3000 {
		im := anyRightImage(&d)
		text, code := impl.ImageText(im)
		if code != impl.OK || text != summed(bodyByRule(im)) {
			t.Fatalf("ImageText of %s: %x, %d", imageString(im), text, code)
		}
		if got, code := impl.ReadImage(text); code != impl.OK || !sameImages(got, im) {
			t.Fatalf("%s is read back as %s, %s", imageString(im), imageString(got), impl.CodeWord(code))
		}
	}
}

// otherBytes answers bytes that are not b: all of them, or some.
func otherBytes(b byte, all bool) []byte {
	if !all {
		return []byte{b + 1, b - 1, b ^ 0x80, b ^ 0x20, ^b}
	}
	var out []byte
	for v := 1; v < 256; v++ {
		out = append(out, b+byte(v))
	}
	return out
}

func TestAnotherByteIsRefused(t *testing.T) {
	for i, im := range rightImages() {
		text, _ := impl.ImageText(im)
		for at := range len(text) {
			want := impl.ErrSum
			if at < 4 {
				want = impl.ErrForm
			}
			for _, b := range otherBytes(text[at], len(text) < 250) {
				checkRead(t, fmt.Sprint("image ", i, " with the byte ", b, " at ", at), text[:at]+string([]byte{b})+text[at+1:], want)
			}
		}
	}
}

func TestShorterTextsAreRefused(t *testing.T) {
	for i, im := range rightImages() {
		text, _ := impl.ImageText(im)
		for n := range len(text) {
			_, want := readByRule(text[:n])
			if n < 8 {
				want = impl.ErrSize
			}
			if want == impl.OK {
				t.Fatal("the model reads a part of a text")
			}
			checkRead(t, fmt.Sprint("image ", i, ", the first bytes"), text[:n], want)
			if n > 0 && n < 8 {
				checkRead(t, fmt.Sprint("image ", i, ", the last bytes"), text[len(text)-n:], impl.ErrSize)
			} else if n > 0 {
				checkRead(t, fmt.Sprint("image ", i, ", the last bytes"), text[len(text)-n:], impl.ErrForm)
			}
		}
	}
}

// A text that is cut off anywhere, and has the right sum.
func TestTextsThatAreCutOff(t *testing.T) {
	for i, im := range rightImages() {
		body := bodyByRule(im)
		for n := range len(body) {
			want := impl.ErrEnd
			if n < 4 {
				want = impl.ErrSize
			}
			checkRead(t, fmt.Sprint("image ", i, " cut off at ", n), summed(body[:n]), want)
		}
	}
}

func TestTextsWithSomethingLeftOver(t *testing.T) {
	for i, im := range rightImages() {
		body := bodyByRule(im)
		text := summed(body)
		for b := range 256 {
			checkRead(t, fmt.Sprint("image ", i, " and the byte ", b), summed(body+string([]byte{byte(b)})), impl.ErrSize)
			checkRead(t, fmt.Sprint("image ", i, " and the byte ", b, " without a sum"), text+string([]byte{byte(b)}), impl.ErrSum)
		}
		for _, more := range []string{"ab", "\x00\x00\x00\x00", littleByBits(impl.SumOf(body), 4), body, text} {
			checkRead(t, fmt.Sprint("image ", i, " and more"), summed(body+more), impl.ErrSize)
		}
	}
}

func TestOtherMarks(t *testing.T) {
	text := summed(bodyByRule(mixedImage()))
	for _, mark := range []string{"PIM2", "PIM0", "POB1", "pim1", "PIm1", "XIM1", "PXM1", "1MIP", "\x00\x00\x00\x00", " PIM", "PIM\x00"} {
		checkRead(t, mark, summed(mark+text[4:len(text)-4]), impl.ErrForm)
		checkRead(t, mark+" without a sum", mark+text[4:], impl.ErrForm)
		checkRead(t, mark+" alone", mark+"abcd", impl.ErrForm)
		checkRead(t, mark+" cut off", mark+"abc", impl.ErrSize)
	}
	checkRead(t, "the mark alone", summed("PIM1"), impl.ErrEnd)
	checkRead(t, "the mark with another sum", "PIM1\x00\x00\x00\x00", impl.ErrSum)
	checkRead(t, "the mark without a sum", "PIM1", impl.ErrSize)
	checkRead(t, "nothing", "", impl.ErrSize)
	checkRead(t, "a byte ahead", " "+text, impl.ErrForm)
}

func TestSumsThatAreNone(t *testing.T) {
	body := bodyByRule(mixedImage())
	sum := sumByRule(body)
	for _, other := range []int{sum + 1, sum - 1, sum + 65521, sum + 65536, sum + 1<<24, sum + 1<<31, 0, -1, -sum, greatWord, impl.SumOf(body[4:]), impl.SumOf(body + "\x00")} {
		checkRead(t, fmt.Sprint("the sum ", other), body+littleByBits(other, 4), impl.ErrSum)
	}
	little := littleByBits(sum, 4)
	checkRead(t, "the highest byte first", body+little[3:]+little[2:3]+little[1:2]+little[:1], impl.ErrSum)
	// The sum is looked at ahead of what stands between.
	for _, other := range []string{"PIM1", body + "x", body[:30], "PIM1" + strings.Repeat("\xff", 100)} {
		checkRead(t, "another sum", other+littleByBits(impl.SumOf(other)+1, 4), impl.ErrSum)
	}
}

// Lengths that say more than there is.
func TestLengthsBeyondTheEnd(t *testing.T) {
	im := mixedImage()
	body := bodyByRule(im)
	dataAt := 6 + len(im.Code)
	countAt := dataAt + 2 + len(im.Data)
	lengthOf := func(at, n, v int) string { return summed(body[:at] + littleByBits(v, n) + body[at+n:]) }
	for _, v := range []int{65535, 65280, 1025, 1024, len(body), len(body) - 4, len(body) - 5} {
		checkRead(t, fmt.Sprint("code of ", v), lengthOf(4, 2, v), impl.ErrEnd)
		checkRead(t, fmt.Sprint("data of ", v), lengthOf(dataAt, 2, v), impl.ErrEnd)
	}
	checkRead(t, "code of all that is behind", lengthOf(4, 2, len(body)-6), impl.ErrEnd)
	checkRead(t, "data of all that is behind", lengthOf(dataAt, 2, len(body)-dataAt-2), impl.ErrEnd)
	for _, v := range []int{8, 9, 16, 17, 128, 255} {
		checkRead(t, fmt.Sprint(v, " symbols"), lengthOf(countAt, 1, v), impl.ErrEnd)
	}
	for _, v := range []int{5, 6, 20, 21, 255} {
		last := body[:len(body)-9]
		checkRead(t, fmt.Sprint("a last name of ", v), summed(last+littleByBits(v, 1)+body[len(last)+1:]), impl.ErrEnd)
	}
	for v := range 7 {
		checkRead(t, fmt.Sprint("just ", v, " symbols"), lengthOf(countAt, 1, v), impl.ErrSize)
	}
	checkRead(t, "code of nothing at all", summed("PIM1\x00"), impl.ErrEnd)
	checkRead(t, "the three lengths alone", summed("PIM1\x00\x00\x00\x00\x00"), impl.ErrBad)
}

// What is wrong with an image is told behind all that is wrong with its text.
func TestTextsOfWrongImages(t *testing.T) {
	for _, s := range imageSpoilers() {
		im := mixedImage()
		s.spoil(&im)
		body := bodyByRule(im)
		checkRead(t, s.what, summed(body), impl.ErrBad)
		checkRead(t, s.what+" and a byte more", summed(body+"x"), impl.ErrSize)
		checkRead(t, s.what+" and a byte less", summed(body[:len(body)-1]), impl.ErrEnd)
		checkRead(t, s.what+" and another sum", body+"xxxx", impl.ErrSum)
		checkRead(t, s.what+" and another mark", summed("Q"+body[1:]), impl.ErrForm)
	}
	for _, im := range []impl.Image{{}, withData(impl.Image{}, 8, [2]int{0, 8}), imageOf(smallFunctions(17)...), imageOf(smallFunctions(255)...), {Code: strings.Repeat("a", 65000)}} {
		checkRead(t, imageString(im), summed(bodyByRule(im)), impl.ErrBad)
	}
}

func TestTextsOfTheGreatestLength(t *testing.T) {
	body := bodyByRule(mixedImage())
	for n, want := range map[int]int{impl.MaxText: impl.ErrSize, impl.MaxText - 1: impl.ErrSize, impl.MaxText + 1: impl.ErrLong, 4 * impl.MaxText: impl.ErrLong} {
		long := body + strings.Repeat("a", n-4-len(body))
		checkRead(t, "an image and more", long+littleByBits(sumOfAny(long), 4), want)
		checkRead(t, "other bytes", strings.Repeat("a", n), max(want*oneIf(want == impl.ErrLong), impl.ErrForm*oneIf(want != impl.ErrLong)))
	}
	// These have no byte left over: code of as many bytes as make a text of just that length.
	for n, want := range map[int]int{impl.MaxText - 1: impl.ErrBad, impl.MaxText: impl.ErrBad, impl.MaxText + 1: impl.ErrLong} {
		long := bodyByRule(impl.Image{Code: strings.Repeat("a", n-13)})
		checkRead(t, "long code", long+littleByBits(sumOfAny(long), 4), want)
	}
}

// sumOfAny answers the sum of a text, however long it is.
func sumOfAny(text string) int {
	sum := 1
	for i := range len(text) {
		sum = (31*sum + int(text[i])) % 65521
	}
	return sum
}

// Any byte of a text is another one, or is gone, or there is one more; the sum is right.
func TestTextsThatAreChangedAndSummed(t *testing.T) {
	told := map[int]int{}
	check := func(what, body string) {
		want, code := readByRule(summed(body))
		got, gotCode := impl.ReadImage(summed(body))
		if gotCode != code || !sameImages(got, want) {
			t.Errorf("%s: ReadImage = %s, %s, not %s, %s", what, imageString(got), impl.CodeWord(gotCode), imageString(want), impl.CodeWord(code))
		}
		told[code]++
	}
	for i, im := range rightImages() {
		body := bodyByRule(im)
		for at := range len(body) {
			for _, b := range otherBytes(body[at], len(body) < 100) {
				check(fmt.Sprint("image ", i, " with the byte ", b, " at ", at), body[:at]+string([]byte{b})+body[at+1:])
			}
			check(fmt.Sprint("image ", i, " without the byte at ", at), body[:at]+body[at+1:])
			check(fmt.Sprint("image ", i, " with a byte more at ", at), body[:at]+"\x01"+body[at:])
		}
	}
	for _, code := range []int{impl.OK, impl.ErrForm, impl.ErrEnd, impl.ErrSize, impl.ErrBad} {
		if told[code] < 50 {
			t.Errorf("only %d texts of code %s", told[code], impl.CodeWord(code))
		}
	}
}

// What is read shares nothing with another answer, and is not kept.
func TestWhatIsReadIsNewMemory(t *testing.T) {
	text, _ := impl.ImageText(mixedImage())
	first, _ := impl.ReadImage(text)
	clear(first.Symbols)
	if second, code := impl.ReadImage(text); code != impl.OK || !sameImages(second, mixedImage()) {
		t.Error("an image that is read shares its symbols with the next one:", imageString(second))
	}
}
