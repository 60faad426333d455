package tests

import (
	"slices"
	"strings"
	"testing"

	"loop.example/g00654/impl"
)

const (
	farthestValue = 4294967296
	lastPlace     = 1048572
)

// relocNames has the name of each kind of relocation at its own place.
var relocNames = strings.Split(" hi20 lo12i lo12s pchi20 pclo12i pclo12s jal branch word64", " ")

// somePlaces has places from the first to the last one.
var somePlaces = []int{0, 4, 8, 2044, 2048, 2052, 4092, 4096, 4100, 6144, 8200, 524288, 1046528, 1048568, lastPlace}

// pairValues has values that any pair of instructions reaches.
var pairValues = []int{0, 1, 2, 3, 4, -1, -2, -4, 2046, 2047, 2048, 2049, -2047, -2048, -2049, -2050, 4092, 4095, 4096, 4097, -4095, -4096, -4097, 6143, 6144, -6144, -6145,
	20488, 18488, 1048572, 1048575, 1048576, -1048576, 123456789, -123456789, 999997439, 999997440, -999997440, -999997441, 999999999, 1000000000, -999999999, -1000000000}

// edgeValues has values about the bounds of what is reached, and about those of all values.
var edgeValues = slices.Concat(aboutEach(2147481600, -2147485696, 2147483648, -2147483648, 4294967296, -4294967296), someInts)

// aboutEach answers each number, three below it and three above it.
func aboutEach(numbers ...int) []int {
	var list []int
	for _, v := range numbers {
		for d := -3; d <= 3; d++ {
			list = append(list, v+d)
		}
	}
	return list
}

// lowerByRule is the one number from -2048 to 2047 that v is but for a multiple of 4096.
func lowerByRule(v int) int {
	low := v % 4096
	switch {
	case low > 2047:
		return low - 4096
	case low < -2048:
		return low + 4096
	}
	return low
}

// splitByRule is what SplitAddress must answer.
func splitByRule(v int) (int, int, int) {
	if v < -farthestValue || v > farthestValue {
		return 0, 0, impl.ErrRange
	}
	lower := lowerByRule(v)
	if v-lower < -2147483648 || v-lower > 2147479552 {
		return 0, 0, impl.ErrReach
	}
	return v - lower, lower, impl.OK
}

func checkSplit(t *testing.T, v int) {
	t.Helper()
	upper, lower, code := impl.SplitAddress(v)
	if wantUpper, wantLower, want := splitByRule(v); upper != wantUpper || lower != wantLower || code != want {
		t.Errorf("SplitAddress(%d) = %d, %d, %d, not %d, %d, %d", v, upper, lower, code, wantUpper, wantLower, want)
	}
	if code == impl.OK && (upper+lower != v || upper%4096 != 0 || lower < -2048 || lower > 2047) {
		t.Errorf("SplitAddress(%d) = %d, %d: no such parts", v, upper, lower)
	}
}

func TestSplitAddress(t *testing.T) {
	for v := -20000; v <= 20000; v++ {
		checkSplit(t, v)
	}
	for _, v := range slices.Concat(edgeValues, pairValues, wildInts) {
		checkSplit(t, v)
	}
	d := dice(9)
	for range 20000 {
		checkSplit(t, d.below(1<<31)*5-5<<30)
	}
}

func TestSplitAddressAtItsEdges(t *testing.T) {
	for v, want := range map[int]int{
		2147481599: impl.OK, 2147481600: impl.ErrReach, 2147483647: impl.ErrReach, 2147483648: impl.ErrReach, 4294967295: impl.ErrReach, 4294967296: impl.ErrReach, 4294967297: impl.ErrRange, greatestInt: impl.ErrRange, greatestInt - 2047: impl.ErrRange,
		-2147483648: impl.OK, -2147483649: impl.OK, -2147485696: impl.OK, -2147485697: impl.ErrReach, -4294967296: impl.ErrReach, -4294967297: impl.ErrRange, leastInt: impl.ErrRange, leastInt + 2047: impl.ErrRange,
	} {
		if upper, lower, code := impl.SplitAddress(v); code != want || code != impl.OK && (upper != 0 || lower != 0) {
			t.Errorf("SplitAddress(%d) = %d, %d, %d, not the code %d", v, upper, lower, code, want)
		}
	}
}

func TestRelocNames(t *testing.T) {
	kinds := []int{0, impl.RelHi20, impl.RelLo12I, impl.RelLo12S, impl.RelPcHi20, impl.RelPcLo12I, impl.RelPcLo12S, impl.RelJal, impl.RelBranch, impl.RelWord64}
	for kind, name := range relocNames {
		if kinds[kind] != kind || impl.RelocName(kind) != name || impl.RelocOf(name) != kind {
			t.Errorf("kind %d, its constant %d: its name is %q, the kind of %q is %d", kind, kinds[kind], impl.RelocName(kind), name, impl.RelocOf(name))
		}
	}
}

func TestRelocNamesThatAreNone(t *testing.T) {
	for _, kind := range slices.Concat([]int{0, -1, 10, 11, 32, 256, 1<<32 + 1}, edgeValues) {
		if name := impl.RelocName(kind); name != "" && (kind < 1 || kind > 9) {
			t.Errorf("RelocName(%d) = %q", kind, name)
		}
	}
	texts := append([]string{"", " ", "hi", "lo12", "pclo12", "word", "word32", "word6", "jalr", "beq"}, wildTexts...)
	for _, name := range relocNames[1:] {
		texts = append(texts, name[1:], name[:len(name)-1], name+"x", "x"+name, name+" ", " "+name, name+"\x00", strings.ToUpper(name), strings.ToUpper(name[:1])+name[1:], name+name, name+strings.Repeat(name, impl.MaxText))
		texts = append(texts, name+strings.Repeat(" ", impl.MaxText), strings.Repeat(" ", impl.MaxText)+name)
	}
	for _, text := range texts {
		if kind := impl.RelocOf(text); kind != 0 {
			t.Errorf("RelocOf(%.20q) = %d", text, kind)
		}
	}
}

// wordNumbers has the words of instructions that were asked for.
var wordNumbers = map[impl.Instr]int{}

// wordOf answers the word of an instruction, by the document's tables.
func wordOf(x impl.Instr) int {
	word, known := wordNumbers[x]
	if !known {
		word = wordByBits(hartRows[x.Op-1], x)
		wordNumbers[x] = word
	}
	return word
}

// wordInstrs has the instructions of words that were asked for, the zero one of those that are none.
var wordInstrs = map[int]impl.Instr{}

// instrOfWord answers the instruction of a word, by the document's tables, or the zero one.
func instrOfWord(word int) impl.Instr {
	x, known := wordInstrs[word]
	if known {
		return x
	}
	for _, r := range hartRows {
		if r.shape.Code != word%128 {
			continue
		}
		if one := instrByBits(r, word); wordByBits(r, one) == word {
			x = one
		}
	}
	wordInstrs[word] = x
	return x
}

// takesLower tells whether an operation is of form FoImm, but no jalr.
func takesLower(r opRow) bool { return r.shape.Form == 3 && r.name != "jalr" }

// fitsByRule tells whether a kind of relocation is one of an operation.
func fitsByRule(kind int, r opRow) bool {
	switch relocNames[kind] {
	case "hi20":
		return r.name == "lui"
	case "pchi20":
		return r.name == "auipc"
	case "jal":
		return r.name == "jal"
	case "branch":
		return r.shape.Form == 4
	case "lo12s", "pclo12s":
		return r.shape.Form == 5
	}
	return takesLower(r)
}

// immByRule is the new Imm that a kind of relocation asks for.
func immByRule(kind, value, place int) int {
	switch relocNames[kind] {
	case "hi20":
		return value - lowerByRule(value)
	case "lo12i", "lo12s":
		return lowerByRule(value)
	case "pchi20":
		return value - place - lowerByRule(value-place)
	case "pclo12i", "pclo12s":
		return lowerByRule(value - (place - 4))
	}
	return value - place
}

// isPlace tells whether an instruction may stand there.
func isPlace(place int) bool { return place >= 0 && place <= lastPlace && place%4 == 0 }

// isWord tells whether it is a word.
func isWord(word int) bool { return word >= 0 && word <= greatWord }

// withImmByRule is what must be answered of an instruction that is given another Imm: its word, or that it does not reach.
func withImmByRule(x impl.Instr, imm int) (int, int) {
	form := formTable[hartRows[x.Op-1].shape.Form]
	if imm < form.low || imm > form.high || imm%form.step != 0 {
		return 0, impl.ErrReach
	}
	x.Imm = imm
	return wordOf(x), impl.OK
}

// applyByRule is what ApplyReloc must answer.
func applyByRule(word, kind, value, place int) (int, int) {
	if !isWord(word) || kind < 1 || kind > 8 || value < -farthestValue || value > farthestValue || !isPlace(place) {
		return 0, impl.ErrRange
	}
	x := instrOfWord(word)
	switch {
	case x.Op == 0:
		return 0, impl.ErrCode
	case !fitsByRule(kind, hartRows[x.Op-1]):
		return 0, impl.ErrKind
	}
	return withImmByRule(x, immByRule(kind, value, place))
}

func checkApply(t *testing.T, word, kind, value, place int) {
	t.Helper()
	got, code := impl.ApplyReloc(word, kind, value, place)
	if want, wantCode := applyByRule(word, kind, value, place); got != want || code != wantCode {
		t.Errorf("ApplyReloc(%#x, %d, %d, %d) = %#x, %s, not %#x, %s", word, kind, value, place, got, impl.CodeWord(code), want, impl.CodeWord(wantCode))
	}
}

// anyOf answers any right instruction of a row.
func anyOf(d *dice, r opRow) impl.Instr {
	list := knownInstrs[r.op-1]
	return list[d.below(len(list))]
}

// knownInstrs has right instructions of each row.
var knownInstrs = rightInstrsOfRows()

func rightInstrsOfRows() [][]impl.Instr {
	var lists [][]impl.Instr
	for _, r := range opRows() {
		lists = append(lists, rightInstrs(r))
	}
	return lists
}

func TestKindsOfInstructions(t *testing.T) {
	d := dice(10)
	for kind := 1; kind <= 8; kind++ {
		for _, r := range hartRows {
			want := codeUnless(fitsByRule(kind, r), impl.ErrKind)
			for range 20 {
				place := somePlaces[d.below(len(somePlaces))]
				x := anyOf(&d, r)
				// 8 bytes ahead or behind are reached by any of them.
				if _, code := impl.ApplyReloc(wordOf(x), kind, place-8+16*d.below(2), place); code != want {
					t.Errorf("ApplyReloc of %v, kind %d: %d, not %d", x, kind, code, want)
				}
				checkApply(t, wordOf(x), kind, d.below(6000)-3000, 4*d.below(lastPlace/4+1))
			}
		}
	}
}

func TestRelocationsChangeTheNumberAlone(t *testing.T) {
	d := dice(11)
	for kind := 1; kind <= 8; kind++ {
		for _, r := range hartRows {
			if !fitsByRule(kind, r) {
				continue
			}
			for _, x := range knownInstrs[r.op-1] {
				place := somePlaces[d.below(len(somePlaces))]
				value := place + 2*d.below(2048) - 2048
				word, code := impl.ApplyReloc(wordOf(x), kind, value, place)
				x.Imm = immByRule(kind, value, place)
				if got, _ := impl.Decode(word); code != impl.OK || got != x {
					t.Fatalf("kind %d with the value %d at %d: %v, %d, not %v", kind, value, place, got, code, x)
				}
			}
		}
	}
}

func TestRelocationsByTheDocumentsWords(t *testing.T) {
	d := dice(12)
	values := slices.Concat(pairValues, edgeValues)
	for kind := 1; kind <= 8; kind++ {
		for _, r := range hartRows {
			if !fitsByRule(kind, r) {
				continue
			}
			word := wordOf(anyOf(&d, r))
			for _, place := range somePlaces {
				for _, value := range values {
					checkApply(t, word, kind, value, place)
				}
				for range 200 {
					checkApply(t, word, kind, place+d.below(5000000)-2500000, place)
					checkApply(t, word, kind, place+d.below(10000)-5000, place)
					checkApply(t, word, kind, d.below(1<<31)*5-5<<30, place)
				}
			}
		}
	}
}

// The lower part hangs on no bound of the upper one: an instruction that takes it alone can hold it, whatever the value.
func TestLowerPartsOfFarValues(t *testing.T) {
	load, store := named("ld x5 x6 77"), named("sd x5 x6 -77")
	for value, low := range map[int]int{2147481599: 2047, 2147481600: -2048, 2147483647: -1, 4294967296: 0, 4294967295: -1, -2147485697: 2047, -4294967296: 0, -4294967295: 1} {
		wantLoad, wantStore := load, store
		wantLoad.Imm, wantStore.Imm = low, low
		// 255 times 4096 further on the lower part is the same.
		for _, place := range []int{4, 4 + 255*4096} {
			checkWord(t, load, impl.RelLo12I, value, place, wantLoad)
			checkWord(t, store, impl.RelLo12S, value, place, wantStore)
			checkWord(t, load, impl.RelPcLo12I, value, place, wantLoad)
			checkWord(t, store, impl.RelPcLo12S, value, place, wantStore)
		}
	}
}

// checkWord holds what is made of an instruction against the one that it must become.
func checkWord(t *testing.T, x impl.Instr, kind, value, place int, want impl.Instr) {
	t.Helper()
	if word, code := impl.ApplyReloc(wordOf(x), kind, value, place); word != wordOf(want) || code != impl.OK {
		t.Errorf("ApplyReloc of %v, kind %d, value %d, place %d: %#x, %d, not %v", x, kind, value, place, word, code, want)
	}
}

// An upper part of what is away by more than a value may be is too far, not out of its bounds.
func TestFarAwayIsNotReached(t *testing.T) {
	auipc, jal, branch := wordOf(named("auipc x5 0")), wordOf(named("jal x1 0")), wordOf(named("bne x5 x6 0"))
	for _, place := range somePlaces {
		for _, value := range []int{-4294967296, 4294967296, -4294967295, 4294967295} {
			for _, p := range [][2]int{{auipc, impl.RelPcHi20}, {jal, impl.RelJal}, {branch, impl.RelBranch}} {
				if word, code := impl.ApplyReloc(p[0], p[1], value, place); word != 0 || code != impl.ErrReach {
					t.Errorf("kind %d with the value %d at %d: %#x, %d", p[1], value, place, word, code)
				}
			}
		}
	}
	for _, place := range []int{0, 8200, lastPlace} {
		for away, want := range map[int]int{2147481599: impl.OK, 2147481600: impl.ErrReach, -2147485696: impl.OK, -2147485697: impl.ErrReach} {
			if _, code := impl.ApplyReloc(auipc, impl.RelPcHi20, place+away, place); code != want {
				t.Errorf("an auipc at %d, of a value %d away: %d, not %d", place, away, code, want)
			}
		}
	}
}

func TestRelocationsWithEachFault(t *testing.T) {
	right := []int{wordOf(named("jal x1 64")), impl.RelJal, 4096, 8192}
	wrong := []struct{ part, v, code int }{
		{0, -1, impl.ErrRange}, {0, 4294967296, impl.ErrRange}, {0, leastInt, impl.ErrRange}, {0, greatestInt, impl.ErrRange}, {0, right[0] + 1<<32, impl.ErrRange},
		{1, 0, impl.ErrRange}, {1, 9, impl.ErrRange}, {1, -1, impl.ErrRange}, {1, 10, impl.ErrRange}, {1, leastInt, impl.ErrRange}, {1, greatestInt, impl.ErrRange},
		{2, -4294967297, impl.ErrRange}, {2, 4294967297, impl.ErrRange}, {2, leastInt, impl.ErrRange}, {2, greatestInt, impl.ErrRange}, {2, 1<<62 + 4096, impl.ErrRange},
		{3, -4, impl.ErrRange}, {3, 2, impl.ErrRange}, {3, 1048575, impl.ErrRange}, {3, 1048576, impl.ErrRange}, {3, leastInt, impl.ErrRange}, {3, greatestInt - 3, impl.ErrRange},
		{0, 0, impl.ErrCode}, {0, greatWord, impl.ErrCode}, {0, 0x00200073, impl.ErrCode},
		{0, wordOf(named("jalr x1 x1 0")), impl.ErrKind}, {1, impl.RelBranch, impl.ErrKind}, {1, impl.RelHi20, impl.ErrKind},
		{2, 4097, impl.ErrReach}, {2, 8192 + 1048575, impl.ErrReach}, {2, 8192 + 1048576, impl.ErrReach}, {2, 8192 - 1048577, impl.ErrReach}, {2, 8192 - 1048578, impl.ErrReach},
	}
	checkFaults(t, right, func(v []int) (int, int) { return impl.ApplyReloc(v[0], v[1], v[2], v[3]) }, wrong)
}

// checkFaults holds a call whose arguments are right but for one of the wrong ones, or for two of them, against the order of codes; a code stands ahead of those that come behind it in wrong.
func checkFaults(t *testing.T, right []int, call func(v []int) (int, int), wrong []struct{ part, v, code int }) {
	t.Helper()
	if _, code := call(right); code != impl.OK {
		t.Fatal("what should be right has the code", code)
	}
	for i, one := range wrong {
		for _, other := range wrong[i:] {
			if one.part == other.part && one != other {
				continue
			}
			v := slices.Clone(right)
			v[other.part], v[one.part] = other.v, one.v
			if got, code := call(v); got != 0 || code != one.code {
				t.Errorf("of %v: %d, %s, not %s", v, got, impl.CodeWord(code), impl.CodeWord(one.code))
			}
		}
	}
}

// someWordsOfAll has words of each operation, and some that are none.
func someWordsOfAll() []int {
	list := slices.Concat([]int{-1, greatWord + 1, leastInt, greatestInt}, noWords)
	for _, r := range hartRows {
		list = append(list, wordOf(knownInstrs[r.op-1][0]), wordOf(knownInstrs[r.op-1][len(knownInstrs[r.op-1])-1]))
	}
	return list
}

func TestRelocationsInTheOrderOfCodes(t *testing.T) {
	kinds := []int{0, 1, 2, 3, 4, 5, 6, 7, 8, 9, -1, leastInt, greatestInt}
	values := []int{0, 1, 4096, 8190, -2147485697, 4294967296, -4294967296, 4294967297, -4294967297, leastInt, greatestInt}
	places := []int{0, 4096, lastPlace, -4, 2, 1048575, 1048576, leastInt, greatestInt - 3}
	for _, word := range someWordsOfAll() {
		for _, kind := range kinds {
			for _, value := range values {
				for _, place := range places {
					checkApply(t, word, kind, value, place)
				}
			}
		}
	}
}
