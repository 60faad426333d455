package tests

import (
	"bytes"
	"math/big"
	"strings"
	"testing"

	"loop.example/g00654/impl"
)

const (
	leastInt    = -1 << 63
	greatestInt = 1<<63 - 1
	greatWord   = 1<<32 - 1
)

var someWords = []int{0, 1, 2, 127, 128, 255, 256, 65535, 65536, 2147483647, 2147483648, 2882343476, 1431655765, 2863311530, greatWord - 1, greatWord}

var someInts = append([]int{-1, -2, -127, -128, -129, -32768, -32769, -2147483648, -2147483649, 4294967296, 4294967297,
	0x0102030405060708, -0x0102030405060708, 0x7fff0000ffff8000, 1 << 62, greatestInt - 1, greatestInt, leastInt, leastInt + 1}, someWords...)

var widths = []int{1, 2, 4, 8}

// bitOf answers bit i of a number in two's complement.
func bitOf(v, i int) int {
	return int(uint64(v) / (1 << uint(i)) % 2)
}

// fieldByBits is what FieldOf must answer, bit by bit.
func fieldByBits(v, low, count int) int {
	sum := 0
	for i := range count {
		sum += bitOf(v, low+i) * (1 << uint(i))
	}
	return sum
}

// signByBits is what SignOf must answer: the highest bit counts with a minus.
func signByBits(v, count int) int {
	sum := new(big.Int)
	for i := range count {
		one := new(big.Int).Lsh(big.NewInt(int64(bitOf(v, i))), uint(i))
		if i == count-1 {
			one.Neg(one)
		}
		sum.Add(sum, one)
	}
	return int(sum.Int64())
}

// littleByBits is what PutLittle must answer.
func littleByBits(v, n int) string {
	out := ""
	for i := range n {
		out += string([]byte{byte(fieldByBits(v, 8*i, 8))})
	}
	return out
}

func TestFieldOfAllFields(t *testing.T) {
	for _, word := range someWords {
		for low := range 32 {
			for count := 1; low+count <= 32; count++ {
				if got, code := impl.FieldOf(word, low, count); got != fieldByBits(word, low, count) || code != impl.OK {
					t.Fatalf("FieldOf(%d, %d, %d) = %d, %d", word, low, count, got, code)
				}
			}
		}
	}
}

func TestPutFieldIsTakenOutAgain(t *testing.T) {
	for _, word := range someWords {
		for _, v := range someInts {
			for low := range 32 {
				for count := 1; low+count <= 32; count++ {
					checkPutField(t, word, low, count, v)
				}
			}
		}
	}
}

func checkPutField(t *testing.T, word, low, count, v int) {
	t.Helper()
	put, code := impl.PutField(word, low, count, v)
	if code != impl.OK || put < 0 || put > greatWord {
		t.Fatalf("PutField(%d, %d, %d, %d) = %d, %d", word, low, count, v, put, code)
	}
	if got, code := impl.FieldOf(put, low, count); got != fieldByBits(v, 0, count) || code != impl.OK {
		t.Fatalf("PutField(%d, %d, %d, %d) gives back %d, %d", word, low, count, v, got, code)
	}
	if fieldByBits(put, 0, low) != fieldByBits(word, 0, low) || fieldByBits(put, low+count, 32-low-count) != fieldByBits(word, low+count, 32-low-count) {
		t.Fatalf("PutField(%d, %d, %d, %d) = %d changes other bits", word, low, count, v, put)
	}
}

func TestFieldsThatAreNone(t *testing.T) {
	wrong := []struct{ word, low, count int }{
		{-1, 0, 1}, {greatWord + 1, 0, 1}, {leastInt, 0, 1}, {greatestInt, 0, 1},
		{5, -1, 1}, {5, -1, 2}, {5, 32, 1}, {5, 32, 0}, {5, leastInt, 1}, {5, greatestInt, 1}, {5, leastInt, leastInt}, {5, greatestInt, greatestInt},
		{5, 0, 0}, {5, 31, 0}, {5, 0, -1}, {5, 0, 33}, {5, 0, leastInt}, {5, 0, greatestInt}, {5, 31, greatestInt},
		{5, 31, 2}, {5, 1, 32}, {5, 16, 17}, {5, 30, 3}, {-1, -1, -1},
	}
	for _, w := range wrong {
		if got, code := impl.FieldOf(w.word, w.low, w.count); got != 0 || code != impl.ErrRange {
			t.Errorf("FieldOf(%d, %d, %d) = %d, %d", w.word, w.low, w.count, got, code)
		}
		if got, code := impl.PutField(w.word, w.low, w.count, 3); got != 0 || code != impl.ErrRange {
			t.Errorf("PutField(%d, %d, %d, 3) = %d, %d", w.word, w.low, w.count, got, code)
		}
	}
}

func TestSignOfAllCounts(t *testing.T) {
	for _, v := range someInts {
		for count := 1; count <= 64; count++ {
			if got, code := impl.SignOf(v, count); got != signByBits(v, count) || code != impl.OK {
				t.Fatalf("SignOf(%d, %d) = %d, %d, want %d", v, count, got, code, signByBits(v, count))
			}
		}
		for _, count := range []int{0, -1, 65, 128, leastInt, greatestInt} {
			if got, code := impl.SignOf(v, count); got != 0 || code != impl.ErrRange {
				t.Fatalf("SignOf(%d, %d) = %d, %d", v, count, got, code)
			}
		}
	}
}

func TestSignsOfEachCountsEnds(t *testing.T) {
	for count := 1; count < 64; count++ {
		top := 1 << (count - 1)
		if got, _ := impl.SignOf(top, count); got != -top {
			t.Errorf("SignOf(%d, %d) = %d", top, count, got)
		}
		if got, _ := impl.SignOf(top-1, count); got != top-1 {
			t.Errorf("SignOf(%d, %d) = %d", top-1, count, got)
		}
	}
	for _, v := range someInts {
		if got, _ := impl.SignOf(v, 64); got != v {
			t.Errorf("SignOf(%d, 64) = %d", v, got)
		}
	}
}

func TestPutLittleAllWidths(t *testing.T) {
	for _, v := range someInts {
		for _, n := range widths {
			if got, code := impl.PutLittle(v, n); got != littleByBits(v, n) || code != impl.OK {
				t.Errorf("PutLittle(%d, %d) = %x, %d", v, n, got, code)
			}
		}
	}
	if got, _ := impl.PutLittle(0x0102030405060708, 8); got != "\x08\x07\x06\x05\x04\x03\x02\x01" {
		t.Errorf("the lowest byte comes first, not %x", got)
	}
}

func TestLittleIsTakenOutAgain(t *testing.T) {
	for _, v := range someInts {
		for _, n := range widths {
			put, _ := impl.PutLittle(v, n)
			for _, around := range []string{"", "\x00", "\xff\xff\xff", "some bytes of another kind"} {
				want := v
				if n < 8 {
					want = fieldByBits(v, 0, 8*n)
				}
				if got, code := impl.TakeLittle(around+put+around, len(around), n); got != want || code != impl.OK {
					t.Errorf("TakeLittle of %d in %d bytes behind %q = %d, %d", v, n, around, got, code)
				}
			}
		}
	}
}

func TestTakeLittleHasSignsOfEightBytesAlone(t *testing.T) {
	for _, row := range []struct{ n, ones, top int }{{1, 255, 128}, {2, 65535, 32768}, {4, greatWord, 2147483648}, {8, -1, leastInt}} {
		if got, code := impl.TakeLittle(strings.Repeat("\xff", row.n), 0, row.n); got != row.ones || code != impl.OK {
			t.Errorf("%d bytes 255 are %d, %d", row.n, got, code)
		}
		if got, code := impl.TakeLittle(strings.Repeat("\x00", row.n-1)+"\x80", 0, row.n); got != row.top || code != impl.OK {
			t.Errorf("the top bit of %d bytes is %d, %d", row.n, got, code)
		}
	}
}

func TestWidthsThatAreNone(t *testing.T) {
	for _, n := range []int{0, 3, 5, 6, 7, 9, 16, 32, 64, -1, -2, -8, leastInt, greatestInt, 1<<32 + 1, 1<<32 + 8} {
		if got, code := impl.PutLittle(-7, n); got != "" || code != impl.ErrRange {
			t.Errorf("PutLittle(-7, %d) = %x, %d", n, got, code)
		}
		for _, at := range []int{0, -1, 99, leastInt, greatestInt} {
			if got, code := impl.TakeLittle("some bytes, more than eight", at, n); got != 0 || code != impl.ErrRange {
				t.Errorf("TakeLittle at %d of %d = %d, %d", at, n, got, code)
			}
		}
	}
}

func TestPlacesOfTakeLittle(t *testing.T) {
	for length := range 20 {
		text := strings.Repeat("\x07", length)
		for _, n := range widths {
			for at := -10; at < 30; at++ {
				want := impl.OK
				if at < 0 || at+n > length {
					want = impl.ErrSize
				}
				got, code := impl.TakeLittle(text, at, n)
				if code != want || code == impl.OK && got == 0 || code != impl.OK && got != 0 {
					t.Fatalf("TakeLittle of %d bytes at %d of %d = %d, %d", length, at, n, got, code)
				}
			}
			for _, at := range []int{leastInt, leastInt + 8, greatestInt, greatestInt - 7, -1 << 32, 1 << 32} {
				if got, code := impl.TakeLittle(text, at, n); got != 0 || code != impl.ErrSize {
					t.Fatalf("TakeLittle of %d bytes at %d of %d = %d, %d", length, at, n, got, code)
				}
			}
		}
	}
}

func TestTakeLittleOfLongTexts(t *testing.T) {
	text := strings.Repeat("\x01", impl.MaxText)
	for _, n := range widths {
		if got, code := impl.TakeLittle(text, impl.MaxText-n, n); got != 0x0101010101010101&(1<<(8*n-1)-1) || code != impl.OK {
			t.Errorf("the last %d bytes of a text of MaxText: %d, %d", n, got, code)
		}
		if got, code := impl.TakeLittle(text, impl.MaxText-n+1, n); got != 0 || code != impl.ErrSize {
			t.Errorf("%d bytes over the end of a text of MaxText: %d, %d", n, got, code)
		}
	}
	for _, row := range []struct{ at, n int }{{0, 1}, {0, 8}, {0, 3}, {-1, 1}, {-1, 3}, {impl.MaxText, 8}} {
		if got, code := impl.TakeLittle(text+"\x01", row.at, row.n); got != 0 || code != impl.ErrLong {
			t.Errorf("TakeLittle of a long text at %d of %d = %d, %d", row.at, row.n, got, code)
		}
	}
}

// sumByRule is what SumOf must answer, of numbers without bounds.
func sumByRule(text string) int {
	sum := big.NewInt(1)
	for i := range len(text) {
		sum.Mul(sum, big.NewInt(31))
		sum.Add(sum, big.NewInt(int64(text[i])))
	}
	return int(sum.Mod(sum, big.NewInt(65521)).Int64())
}

func TestSumOf(t *testing.T) {
	texts := []string{"", "\x00", "a", "ab", "ba", "\xff", "\xff\xff\xff\xff", "PIM1", "é", strings.Repeat("\xff", 1000), strings.Repeat("patch", 300)}
	for _, text := range texts {
		if got := impl.SumOf(text); got != sumByRule(text) {
			t.Errorf("SumOf(%.20q) = %d, want %d", text, got, sumByRule(text))
		}
	}
}

func TestSumTellsOneOtherByte(t *testing.T) {
	for _, length := range []int{1, 2, 7, 300, impl.MaxText - 1, impl.MaxText} {
		text := bytes.Repeat([]byte{200, 3, 0, 255, 64}, length/5+1)[:length]
		sum := impl.SumOf(string(text))
		for _, at := range []int{0, length / 2, length - 1} {
			was := text[at]
			for b := range 256 {
				text[at] = byte(b)
				if same := impl.SumOf(string(text)) == sum; same != (byte(b) == was) {
					t.Fatalf("%d bytes, byte %d from %d to %d: alike %v", length, at, was, b, same)
				}
			}
			text[at] = was
		}
	}
}

func TestSumOfLongTexts(t *testing.T) {
	if impl.SumOf(strings.Repeat("a", impl.MaxText)) == 0 {
		t.Error("a text of MaxText bytes has no sum")
	}
	for _, more := range []int{1, 2, 1000} {
		if got := impl.SumOf(strings.Repeat("a", impl.MaxText+more)); got != 0 {
			t.Error("the sum of a text with", more, "bytes too many is", got)
		}
	}
}

func TestHexOfEachByte(t *testing.T) {
	const digits = "0123456789abcdef"
	for b := range 256 {
		one := string([]byte{byte(b)})
		want := string([]byte{digits[b/16], digits[b%16]})
		if got := impl.HexOf(one); got != want {
			t.Errorf("HexOf(%q) = %q", one, got)
		}
		if got, code := impl.BytesOf(want); got != one || code != impl.OK {
			t.Errorf("BytesOf(%q) = %q, %d", want, got, code)
		}
	}
	if got := impl.HexOf("\x12\x34\xab"); got != "1234ab" {
		t.Errorf("HexOf = %q", got)
	}
}

func TestHexIsReadBack(t *testing.T) {
	all := make([]byte, 256)
	for b := range all {
		all[b] = byte(b)
	}
	for _, text := range []string{"", "a", "\x00\x00", string(all), strings.Repeat("\xf0\x0e", impl.MaxText/4)} {
		hex := impl.HexOf(text)
		if got, code := impl.BytesOf(hex); got != text || code != impl.OK || len(hex) != 2*len(text) {
			t.Errorf("%d bytes come back as %d, %d", len(text), len(got), code)
		}
	}
}

func TestHexOfLongTexts(t *testing.T) {
	for _, more := range []int{1, 2, impl.MaxText / 2, impl.MaxText} {
		if got := impl.HexOf(strings.Repeat("a", impl.MaxText/2+more)); got != "" {
			t.Error("HexOf with", more, "bytes too many:", len(got))
		}
		for _, c := range []string{"0", "x"} {
			if got, code := impl.BytesOf(strings.Repeat(c, impl.MaxText+more)); got != "" || code != impl.ErrLong {
				t.Error("BytesOf with", more, "bytes too many:", len(got), code)
			}
		}
	}
}

func TestBytesOfOtherTexts(t *testing.T) {
	for _, text := range []string{"0", "f", "000", "0x00", "00 ", " 00", "0 0", "é", "00\n", "\x00\x00", strings.Repeat("0", impl.MaxText-1)} {
		if got, code := impl.BytesOf(text); got != "" || code != impl.ErrForm {
			t.Errorf("BytesOf(%.20q) = %q, %d", text, got, code)
		}
	}
	for b := range 256 {
		one := string([]byte{byte(b)})
		if strings.Contains("0123456789abcdef", one) {
			continue
		}
		for _, text := range []string{one + "0", "0" + one, one + one, "00" + one + "0", "000" + one} {
			if got, code := impl.BytesOf(text); got != "" || code != impl.ErrForm {
				t.Errorf("BytesOf(%q) = %q, %d", text, got, code)
			}
		}
	}
}
