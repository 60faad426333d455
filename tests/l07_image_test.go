package tests

import (
	"fmt"
	"math/big"
	"slices"
	"strings"
	"testing"

	"loop.example/g00654/impl"
)

// symbolLimit is how many symbols an image may have, codeLimit and dataLimit how many bytes.
const (
	symbolLimit = 16
	codeLimit   = 1024
	dataLimit   = 256
)

// dataOf answers n bytes no two neighbouring ones of which are alike.
func dataOf(n int) string {
	out := make([]byte, n)
	for i := range out {
		out[i] = byte(i*151 + 77)
	}
	return string(out)
}

// caller answers a function of a frame that stands at a place of an image's code and calls what stands at others.
func caller(frame, at int, to ...int) built {
	var body []impl.Instr
	for i, place := range to {
		body = append(body, impl.Instr{Op: impl.OpJal, Rd: 1, Imm: place - at - 4*(i+2)})
	}
	return functionOf(frame, body...)
}

// imageOf answers an image of functions side by side, named f0, f1 and on.
func imageOf(functions ...built) impl.Image {
	im := impl.Image{}
	for i, b := range functions {
		code := wordsOf(b.list)
		im.Symbols = append(im.Symbols, impl.Symbol{Name: fmt.Sprint("f", i), Kind: 1, At: len(im.Code), Size: len(code), Frame: b.frame})
		im.Code += code
	}
	return im
}

// withData answers the image with n bytes of data, and behind its functions symbols of a place and a size each, named d0, d1 and on.
func withData(im impl.Image, n int, places ...[2]int) impl.Image {
	im.Data = dataOf(n)
	im.Symbols = slices.Clone(im.Symbols)
	for i, p := range places {
		im.Symbols = append(im.Symbols, impl.Symbol{Name: fmt.Sprint("d", i), Kind: 2, At: p[0], Size: p[1]})
	}
	return im
}

// inOrder answers the image with its symbols as a text of f and d says: the next function, the next data.
func inOrder(im impl.Image, order string) impl.Image {
	var functions, datas, list []impl.Symbol
	for _, y := range im.Symbols {
		if y.Kind == 1 {
			functions = append(functions, y)
		} else {
			datas = append(datas, y)
		}
	}
	for _, kind := range order {
		if kind == 'f' {
			list, functions = append(list, functions[0]), functions[1:]
		} else {
			list, datas = append(list, datas[0]), datas[1:]
		}
	}
	im.Symbols = list
	return im
}

// mixedImage has four functions that call each other and three data with room between them; its symbols are f0, d0, f1, d1, f2, d2, f3.
func mixedImage() impl.Image {
	im := imageOf(caller(16, 0, 28, 56), caller(32, 28, 28, 0), functionOf(128, listed("addi x5 x5 1\nsd x5 x2 0")...), caller(48, 84, 0))
	return inOrder(withData(im, 56, [2]int{8, 8}, [2]int{16, 16}, [2]int{40, 8}), "fdfdfdf")
}

// longFunction answers a function of n words.
func longFunction(frame, n int) built {
	return functionOf(frame, slices.Repeat(listed("addi x5 x5 1"), n-5)...)
}

// fullImage has as much code and data as an image may have.
func fullImage() impl.Image {
	im := imageOf(longFunction(16, 64), longFunction(128, 64), longFunction(64, 64), longFunction(48, 64))
	return withData(im, dataLimit, dataPlaces(12, 16)...)
}

// dataPlaces answers n places of data side by side, of the same size, the last one to the end of what data an image may have.
func dataPlaces(n, size int) [][2]int {
	var out [][2]int
	for i := range n {
		out = append(out, [2]int{i * size, size})
	}
	out[n-1][1] = dataLimit - out[n-1][0]
	return out
}

// smallFunctions answers n functions of the fewest words, of all frames in turn.
func smallFunctions(n int) []built {
	var list []built
	for i := range n {
		list = append(list, functionOf(allFrames[i%len(allFrames)]))
	}
	return list
}

// renamed answers the image with other names of its first symbols.
func renamed(im impl.Image, names ...string) impl.Image {
	im.Symbols = slices.Clone(im.Symbols)
	for i, name := range names {
		im.Symbols[i].Name = name
	}
	return im
}

func rightImages() []impl.Image {
	mixed := mixedImage()
	list := []impl.Image{
		imageOf(functionOf(16)), imageOf(longFunction(64, 64)), mixed, fullImage(),
		imageOf(smallFunctions(symbolLimit)...),
		withData(imageOf(functionOf(32)), dataLimit, dataPlaces(symbolLimit-1, 8)...),
		inOrder(withData(imageOf(smallFunctions(8)...), dataLimit, dataPlaces(8, 24)...), strings.Repeat("fd", 8)),
		inOrder(withData(imageOf(smallFunctions(8)...), dataLimit, dataPlaces(8, 32)...), "f"+strings.Repeat("d", 8)+strings.Repeat("f", 7)),
		withData(imageOf(functionOf(16)), 3), withData(imageOf(functionOf(16)), dataLimit), withData(imageOf(functionOf(16)), 15, [2]int{0, 8}),
		withData(imageOf(functionOf(16)), dataLimit, [2]int{0, dataLimit}), withData(imageOf(functionOf(16)), dataLimit, [2]int{dataLimit - 8, 8}),
		renamed(mixed, "a", "aa", "a1", "A", "_", "abcdefghijabcdefghij", "abcdefghijabcdefghi_"),
	}
	for _, order := range []string{"ffffddd", "fdddfff", "fffdddf", "ffddfdf"} {
		list = append(list, inOrder(mixed, order))
	}
	return list
}

// endsBehind tells whether what begins at a place ends behind a limit, in numbers without bounds.
func endsBehind(at, size, limit int) bool {
	end := new(big.Int).Add(big.NewInt(int64(at)), big.NewInt(int64(size)))
	return end.Cmp(big.NewInt(int64(limit))) > 0
}

// symbolByRule is the code of a symbol by itself; it is held against the symbols ahead of it.
func symbolByRule(im impl.Image, n int) int {
	y := im.Symbols[n]
	ends := map[int]int{}
	for _, ahead := range im.Symbols[:n] {
		ends[ahead.Kind] = ahead.At + ahead.Size
	}
	switch {
	case !impl.NameOK(y.Name):
		return impl.ErrForm
	case slices.ContainsFunc(im.Symbols[:n], func(ahead impl.Symbol) bool { return ahead.Name == y.Name }):
		return impl.ErrClash
	case y.Kind != 1 && y.Kind != 2:
		return impl.ErrKind
	case y.Kind == 1:
		return codeUnless(y.At == ends[1] && y.Size >= 1 && !endsBehind(y.At, y.Size, len(im.Code)), impl.ErrRange)
	case y.At < ends[2] || y.At%8 != 0 || y.Size%8 != 0 || y.Size <= 0 || endsBehind(y.At, y.Size, len(im.Data)):
		return impl.ErrRange
	}
	return codeUnless(y.Frame == 0, impl.ErrFrame)
}

// imageByRule is what LintImage must answer, by the document's words.
func imageByRule(im impl.Image) (int, int, int) {
	switch {
	case len(im.Symbols) > 16:
		return 0, 0, impl.ErrMany
	case len(im.Code) > 1024 || len(im.Data) > 256:
		return 0, 0, impl.ErrSize
	}
	end := 0
	var calls []int
	for n, y := range im.Symbols {
		if code := symbolByRule(im, n); code != impl.OK {
			return n, 0, code
		}
		if y.Kind == 1 {
			end, calls = y.At+y.Size, append(calls, 4096+y.At)
		}
	}
	switch {
	case len(im.Symbols) == 0 || im.Symbols[0].Kind != 1:
		return 0, 0, impl.ErrSymbol
	case end != len(im.Code):
		return 0, 0, impl.ErrEnd
	}
	for n, y := range im.Symbols {
		if y.Kind != 1 {
			continue
		}
		if where, code := impl.LintFunction(im.Code[y.At:y.At+y.Size], 4096+y.At, y.Frame, calls); code != impl.OK {
			return n, where, code
		}
	}
	return 0, 0, impl.OK
}

func imageString(im impl.Image) string {
	return fmt.Sprintf("%d bytes of code %x, %d of data, %v", len(im.Code), im.Code[:min(len(im.Code), 200)], len(im.Data), im.Symbols[:min(len(im.Symbols), 20)])
}

// checkImage holds the answer for an image against what the document asks.
func checkImage(t *testing.T, what string, im impl.Image, n, where, code int) {
	t.Helper()
	if gotN, gotWhere, gotCode := impl.LintImage(im); gotN != n || gotWhere != where || gotCode != code {
		t.Errorf("%s: LintImage = %d, %d, %s, not %d, %d, %s, of %s", what, gotN, gotWhere, impl.CodeWord(gotCode), n, where, impl.CodeWord(code), imageString(im))
	}
	if impl.ImageOK(im) != (code == impl.OK) {
		t.Errorf("%s: ImageOK = %v of %s", what, code != impl.OK, imageString(im))
	}
}

func TestImageConstants(t *testing.T) {
	got := []int{impl.MaxSymbols, impl.MaxThreads, impl.SyFunc, impl.SyData, impl.TextBase, impl.TextSize, impl.PatchBase, impl.PatchSize,
		impl.DataBase, impl.DataSize, impl.ExtraBase, impl.ExtraSize, impl.StackBase, impl.StackGap, impl.StackSize}
	if !slices.Equal(got, []int{16, 4, 1, 2, 4096, 1024, 8192, 1024, 16384, 256, 20480, 256, 32768, 1024, 512}) {
		t.Error("constants", got)
	}
}

func TestRightImages(t *testing.T) {
	for i, im := range rightImages() {
		checkImage(t, fmt.Sprint("right image ", i), im, 0, 0, impl.OK)
	}
}

func TestHowManySymbols(t *testing.T) {
	for _, n := range []int{17, 18, 32, 33, 255, 256, 4096, 4097, 65537} {
		checkImage(t, "functions", imageOf(smallFunctions(min(n, 300))...), 0, 0, impl.ErrMany)
		checkImage(t, "empty symbols", impl.Image{Symbols: make([]impl.Symbol, n)}, 0, 0, impl.ErrMany)
	}
	checkImage(t, "17 with data", withData(imageOf(functionOf(16)), dataLimit, dataPlaces(16, 8)...), 0, 0, impl.ErrMany)
	checkImage(t, "16 empty symbols", impl.Image{Symbols: make([]impl.Symbol, 16)}, 0, 0, impl.ErrForm)
}

// What is in an image is no text of its own: however long, it is told by the image's limits.
func TestHowMuchCodeAndData(t *testing.T) {
	full := fullImage()
	for _, n := range []int{1, 2, 4, 20, 1024, impl.MaxText + 1} {
		longer := full
		longer.Code += strings.Repeat("\x13\x00\x00\x00", n)[:n]
		checkImage(t, fmt.Sprint(n, " bytes of code too many"), longer, 0, 0, impl.ErrSize)
		longer = full
		longer.Data += strings.Repeat("a", n)
		checkImage(t, fmt.Sprint(n, " bytes of data too many"), longer, 0, 0, impl.ErrSize)
	}
	// A function of 65 words ends where the image may end, but is too long by itself.
	checkImage(t, "a function of 65 words", imageOf(longFunction(16, 65), longFunction(16, 64)), 0, 0, impl.ErrSize)
	checkImage(t, "a second function of 65 words", imageOf(longFunction(16, 64), longFunction(16, 65)), 1, 0, impl.ErrSize)
}

func TestImagesOfNothing(t *testing.T) {
	checkImage(t, "nothing", impl.Image{}, 0, 0, impl.ErrSymbol)
	checkImage(t, "an empty list", impl.Image{Symbols: []impl.Symbol{}}, 0, 0, impl.ErrSymbol)
	checkImage(t, "code and data alone", impl.Image{Code: "abcd", Data: "a"}, 0, 0, impl.ErrSymbol)
	checkImage(t, "data alone", withData(impl.Image{}, 8, [2]int{0, 8}), 0, 0, impl.ErrSymbol)
	checkImage(t, "data alone beside code", withData(impl.Image{Code: "abcd"}, 8, [2]int{0, 8}), 0, 0, impl.ErrSymbol)
	for _, order := range []string{"dffffdd", "dddffff", "dfdfdff"} {
		checkImage(t, order, inOrder(mixedImage(), order), 0, 0, impl.ErrSymbol)
	}
}

// withSymbol answers the image with another symbol n.
func withSymbol(im impl.Image, n int, change func(y *impl.Symbol)) impl.Image {
	im.Symbols = slices.Clone(im.Symbols)
	change(&im.Symbols[n])
	return im
}

func TestNamesOfSymbols(t *testing.T) {
	mixed := mixedImage()
	for n, own := range mixed.Symbols {
		for _, name := range []string{"", "9", "9a", "a b", "a-", "é", "\x00", "a\n", strings.Repeat("a", 21), strings.Repeat("a", impl.MaxText+1)} {
			checkImage(t, "no name", renamedAt(mixed, n, name), n, 0, impl.ErrForm)
		}
		for ahead := range mixed.Symbols[:n] {
			checkImage(t, "a name twice", renamedAt(mixed, n, mixed.Symbols[ahead].Name), n, 0, impl.ErrClash)
		}
		for _, name := range []string{own.Name + "_", strings.ToUpper(own.Name), strings.Repeat("a", 20), "_", "Z9"} {
			checkImage(t, "another name", renamedAt(mixed, n, name), 0, 0, impl.OK)
		}
	}
}

func renamedAt(im impl.Image, n int, name string) impl.Image {
	return withSymbol(im, n, func(y *impl.Symbol) { y.Name = name })
}

func TestKindsOfSymbols(t *testing.T) {
	mixed := mixedImage()
	for n := range mixed.Symbols {
		for _, kind := range []int{0, 3, 4, -1, -2, 257, 1<<32 + 1, 1<<32 + 2, leastInt, leastInt + 1, leastInt + 2, greatestInt} {
			checkImage(t, fmt.Sprint("kind ", kind), withSymbol(mixed, n, func(y *impl.Symbol) { y.Kind = kind }), n, 0, impl.ErrKind)
		}
	}
}

// greatNumbers has places and sizes that turn over, or would be right but for their upper bits.
var greatNumbers = []int{leastInt, leastInt + 8, leastInt + 1024, -1 << 32, -1024, -256, -8, -4, -1, 1 << 16, 1 << 32, 1<<32 + 8, 1<<32 + 28, 1 << 62, greatestInt - 1023, greatestInt - 255, greatestInt - 27, greatestInt - 15, greatestInt - 7, greatestInt - 3, greatestInt}

func TestPlacesOfFunctions(t *testing.T) {
	mixed := mixedImage()
	for n, own := range mixed.Symbols {
		if own.Kind != 1 {
			continue
		}
		room := len(mixed.Code) - own.At
		for off := -130; off <= 130; off++ {
			moved := withSymbol(mixed, n, func(y *impl.Symbol) { y.At += off })
			if off != 0 {
				checkImage(t, fmt.Sprint("a function ", off, " away"), moved, n, 0, impl.ErrRange)
			}
			size := own.Size + off
			if size < 1 || size > room {
				checkImage(t, fmt.Sprint("a function of ", size), withSymbol(mixed, n, func(y *impl.Symbol) { y.Size = size }), n, 0, impl.ErrRange)
			}
		}
		for _, v := range greatNumbers {
			checkImage(t, fmt.Sprint("a function at ", v), withSymbol(mixed, n, func(y *impl.Symbol) { y.At = v }), n, 0, impl.ErrRange)
			checkImage(t, fmt.Sprint("a function of ", v), withSymbol(mixed, n, func(y *impl.Symbol) { y.Size = v }), n, 0, impl.ErrRange)
			checkImage(t, fmt.Sprint("a function at and of ", v), withSymbol(mixed, n, func(y *impl.Symbol) { y.At, y.Size = v, own.At-v+own.Size }), n, 0, impl.ErrRange)
		}
	}
}

// A function that is too short or too long, and still within the code, is told where the next one begins.
func TestSizesThatShiftTheNextFunction(t *testing.T) {
	mixed := mixedImage()
	for size := 1; size <= 56; size++ {
		want := codeUnless(size == 28, impl.ErrRange)
		checkImage(t, fmt.Sprint("f0 of ", size), withSymbol(mixed, 0, func(y *impl.Symbol) { y.Size = size }), 2*oneIf(size != 28), 0, want)
	}
	for size := 1; size < 24; size++ {
		checkImage(t, fmt.Sprint("f3 of ", size), withSymbol(mixed, 6, func(y *impl.Symbol) { y.Size = size }), 0, 0, impl.ErrEnd)
	}
}

func TestPlacesOfData(t *testing.T) {
	mixed := mixedImage()
	// Of d0, d1 and d2: from where on, and to where, they may lie without another fault.
	for i, room := range [][2]int{{0, 16}, {16, 40}, {32, 56}} {
		n := 2*i + 1
		for at := -24; at <= 80; at++ {
			for size := -16; size <= 72; size++ {
				moved := withSymbol(mixed, n, func(y *impl.Symbol) { y.At, y.Size = at, size })
				right := at >= room[0] && at%8 == 0 && size%8 == 0 && size > 0 && at+size <= room[1]
				if right || at < room[0] || at%8 != 0 || size%8 != 0 || size <= 0 || at+size > 56 {
					checkImage(t, fmt.Sprint("d", i, " at ", at, " of ", size), moved, n*oneIf(!right), 0, codeUnless(right, impl.ErrRange))
				}
			}
		}
		for _, v := range greatNumbers {
			checkImage(t, fmt.Sprint("data at ", v), withSymbol(mixed, n, func(y *impl.Symbol) { y.At = v }), n, 0, impl.ErrRange)
			checkImage(t, fmt.Sprint("data of ", v), withSymbol(mixed, n, func(y *impl.Symbol) { y.Size = v }), n, 0, impl.ErrRange)
			checkImage(t, fmt.Sprint("data at and of ", v), withSymbol(mixed, n, func(y *impl.Symbol) { y.At, y.Size = v, 16-v }), n, 0, impl.ErrRange)
			checkImage(t, fmt.Sprint("data at and of ", v), withSymbol(mixed, n, func(y *impl.Symbol) { y.At, y.Size = v&^7, 24-v&^7 }), n, 0, impl.ErrRange)
		}
	}
}

// Data that reach over where the next ones begin are told there.
func TestDataThatFallBack(t *testing.T) {
	mixed := mixedImage()
	for _, v := range []struct{ n, at, size, told int }{{1, 8, 16, 3}, {1, 16, 8, 3}, {1, 0, 24, 3}, {1, 40, 8, 3}, {3, 32, 16, 5}, {3, 16, 32, 5}, {3, 48, 8, 5}, {3, 16, 24, 0}, {3, 32, 8, 0}} {
		changed := withSymbol(mixed, v.n, func(y *impl.Symbol) { y.At, y.Size = v.at, v.size })
		checkImage(t, fmt.Sprint("data at ", v.at, " of ", v.size), changed, v.told, 0, codeUnless(v.told == 0, impl.ErrRange))
	}
	swapped := mixedImage()
	swapped.Symbols[1], swapped.Symbols[3] = swapped.Symbols[3], swapped.Symbols[1]
	checkImage(t, "data swapped", swapped, 3, 0, impl.ErrRange)
}

func TestFramesOfSymbols(t *testing.T) {
	mixed := mixedImage()
	for n, own := range mixed.Symbols {
		for _, frame := range slices.Concat(allFrames, wrongFrames) {
			changed := withSymbol(mixed, n, func(y *impl.Symbol) { y.Frame = frame })
			if right := frame == own.Frame; !right {
				checkImage(t, fmt.Sprint("frame ", frame, " of ", own.Name), changed, n, 0, impl.ErrFrame)
			}
		}
	}
}

func TestCodeThatFunctionsDoNotReach(t *testing.T) {
	for i, im := range rightImages() {
		if room := codeLimit - len(im.Code); room > 0 {
			for _, n := range []int{1, 4, 20, room} {
				longer := im
				longer.Code += strings.Repeat("\x13\x00\x00\x00", codeLimit)[:min(n, room)]
				checkImage(t, fmt.Sprint("image ", i, " and ", n, " bytes"), longer, 0, 0, impl.ErrEnd)
			}
		}
	}
}

// recoded answers the image with another word of the function that symbol n is.
func recoded(im impl.Image, n, i, word int) impl.Image {
	at := im.Symbols[n].At + 4*i
	im.Code = im.Code[:at] + littleByBits(word, 4) + im.Code[at+4:]
	return im
}

// instructed answers the image with another instruction of the function that symbol n is.
func instructed(im impl.Image, n, i int, x impl.Instr) impl.Image {
	return recoded(im, n, i, wordByBits(hartRows[x.Op-1], x))
}

func TestFaultsOfOneFunction(t *testing.T) {
	mixed := mixedImage()
	for _, n := range []int{0, 2, 4, 6} {
		last := mixed.Symbols[n].Size/4 - 1
		for i := range last + 1 {
			checkImage(t, "no instruction", recoded(mixed, n, i, 0), n, i, impl.ErrCode)
		}
		for text, code := range map[string]int{"jalr x0 x1 0": impl.ErrReturn, "jal x1 4": impl.ErrCall, "jal x5 4": impl.ErrJump, "beq x0 x0 -8": impl.ErrJump, "addi x1 x1 1": impl.ErrReg, "ld x5 x2 -8": impl.ErrFrame} {
			checkImage(t, text, instructed(mixed, n, 2, named("%s", text)), n, 2, code)
			for _, later := range []int{2, 4, 6} {
				if later > n {
					checkImage(t, text+" and a later fault", instructed(instructed(mixed, n, 2, named("%s", text)), later, 2, named("jal x5 4")), n, 2, code)
					// A word that is none is looked for first just in its own function.
					checkImage(t, text+" and a later word", recoded(instructed(mixed, n, 2, named("%s", text)), later, 2, 0), n, 2, code)
				}
			}
		}
		checkImage(t, "the prologue", instructed(mixed, n, 1, named("addi x0 x0 0")), n, 1, impl.ErrFrame)
		checkImage(t, "the end", instructed(mixed, n, last, named("addi x0 x0 0")), n, last, impl.ErrEnd)
	}
	for _, words := range []int{1, 2, 3, 4, 65, 100} {
		whole := longFunction(16, max(words, 5))
		whole.list = whole.list[:words]
		checkImage(t, fmt.Sprint("a first function of ", words), imageOf(whole, functionOf(16)), 0, 0, impl.ErrSize)
		checkImage(t, fmt.Sprint("a last function of ", words), imageOf(functionOf(16), functionOf(16), whole), 2, 0, impl.ErrSize)
	}
	for n := 1; n <= 3; n++ {
		odd := mixedImage()
		odd.Code += "abc"[:n]
		checkImage(t, "an odd size", withSymbol(odd, 6, func(y *impl.Symbol) { y.Size += n }), 6, 0, impl.ErrSize)
	}
}

func TestCallsBetweenFunctions(t *testing.T) {
	places := []int{0, 28, 56, 84}
	for i, at := range places {
		for to := -64; to <= 160; to += 2 {
			im := instructed(mixedImage(), 2*i, 2, impl.Instr{Op: impl.OpJal, Rd: 1, Imm: to - at - 8})
			right := slices.Contains(places, to)
			checkImage(t, fmt.Sprint("f", i, " calls ", to), im, 2*i*oneIf(!right), 2*oneIf(!right), codeUnless(right, impl.ErrCall))
		}
		// Data, places for patches and what lies below the code are no functions.
		for _, address := range []int{0, 28, 4092, 8192, 16384, 16392, 20480, 32768} {
			im := instructed(mixedImage(), 2*i, 2, impl.Instr{Op: impl.OpJal, Rd: 1, Imm: address - 4096 - at - 8})
			checkImage(t, fmt.Sprint("f", i, " calls the address ", address), im, 2*i, 2, impl.ErrCall)
		}
	}
}

// imageSpoiler brings a fault into mixedImage.
type imageSpoiler struct {
	what  string
	spoil func(im *impl.Image)
	n     int
	where int
	code  int
}

// symbolSpoilers answers the faults of symbol n, in the document's order.
func symbolSpoilers(n int, data bool) []imageSpoiler {
	set := func(what string, code int, change func(im *impl.Image, y *impl.Symbol)) imageSpoiler {
		return imageSpoiler{fmt.Sprint(what, " of symbol ", n), func(im *impl.Image) { change(im, &im.Symbols[n]) }, n, 0, code}
	}
	list := []imageSpoiler{
		set("no name", impl.ErrForm, func(im *impl.Image, y *impl.Symbol) { y.Name = "9" }),
		set("a name twice", impl.ErrClash, func(im *impl.Image, y *impl.Symbol) { y.Name = im.Symbols[0].Name }),
		set("a kind", impl.ErrKind, func(im *impl.Image, y *impl.Symbol) { y.Kind = 3 }),
		set("a size", impl.ErrRange, func(im *impl.Image, y *impl.Symbol) { y.Size = 0 }),
	}
	if data {
		list = append(list, set("a frame", impl.ErrFrame, func(im *impl.Image, y *impl.Symbol) { y.Frame = 16 }))
	}
	return list
}

// imageSpoilers has the faults of images, in the document's order.
func imageSpoilers() []imageSpoiler {
	list := []imageSpoiler{
		{"17 symbols", func(im *impl.Image) { im.Symbols = slices.Concat(im.Symbols, make([]impl.Symbol, 17-len(im.Symbols))) }, 0, 0, impl.ErrMany},
		{"1025 bytes of code", func(im *impl.Image) { im.Code += strings.Repeat("a", 1025-len(im.Code)) }, 0, 0, impl.ErrSize},
		{"257 bytes of data", func(im *impl.Image) { im.Data += strings.Repeat("a", 257-len(im.Data)) }, 0, 0, impl.ErrSize},
	}
	for n := 2; n <= 6; n++ {
		list = append(list, symbolSpoilers(n, n%2 == 1)...)
	}
	code := func(n, i int, text string, code int) imageSpoiler {
		return imageSpoiler{text, func(im *impl.Image) { *im = instructed(*im, n, i, named("%s", text)) }, n, i, code}
	}
	return append(list,
		imageSpoiler{"data first", func(im *impl.Image) { im.Symbols[0], im.Symbols[1] = im.Symbols[1], im.Symbols[0] }, 0, 0, impl.ErrSymbol},
		imageSpoiler{"code left over", func(im *impl.Image) { im.Code += "abcd" }, 0, 0, impl.ErrEnd},
		imageSpoiler{"the frame of f0", func(im *impl.Image) { im.Symbols[0].Frame = 24 }, 0, 0, impl.ErrFrame},
		code(0, 3, "jal x1 4", impl.ErrCall),
		imageSpoiler{"the frame of f1", func(im *impl.Image) { im.Symbols[2].Frame = 16 }, 2, 0, impl.ErrFrame},
		code(2, 2, "addi x2 x2 0", impl.ErrReg),
		code(4, 6, "addi x0 x0 0", impl.ErrEnd),
		imageSpoiler{"no word", func(im *impl.Image) { *im = recoded(*im, 6, 5, 0) }, 6, 5, impl.ErrCode},
	)
}

func TestFaultsOfImagesInTheirOrder(t *testing.T) {
	list := imageSpoilers()
	for i, first := range list {
		for _, later := range list[i:] {
			im := mixedImage()
			later.spoil(&im)
			if later.what != first.what {
				first.spoil(&im)
			}
			checkImage(t, first.what+", "+later.what, im, first.n, first.where, first.code)
		}
	}
}

// In turn: a symbol's number counts, not the kind of its fault.
func TestTheFirstSymbolCounts(t *testing.T) {
	for _, first := range symbolSpoilers(3, true) {
		for _, later := range slices.Concat(symbolSpoilers(4, false), symbolSpoilers(5, true)) {
			im := mixedImage()
			first.spoil(&im)
			later.spoil(&im)
			checkImage(t, first.what+", "+later.what, im, 3, 0, first.code)
		}
	}
	for n := range 7 {
		for _, s := range symbolSpoilers(n, n%2 == 1) {
			if s.code == impl.ErrClash && n == 0 {
				continue
			}
			im := mixedImage()
			s.spoil(&im)
			checkImage(t, s.what, im, n, 0, s.code)
		}
	}
}

// anyRightImage answers an image that is right: functions that call each other, data, in any order.
func anyRightImage(d *dice) impl.Image {
	count := 1 + d.below(6)
	at, sizes := []int{0}, []int{}
	for range count {
		sizes = append(sizes, 20+4*d.below(4))
		at = append(at, at[len(at)-1]+sizes[len(sizes)-1])
	}
	var functions []built
	for i := range count {
		var to []int
		for len(to) < sizes[i]/4-5 {
			to = append(to, at[d.below(count)])
		}
		functions = append(functions, caller(allFrames[d.below(8)], at[i], to...))
	}
	var places [][2]int
	end := 0
	for range d.below(5) {
		p := [2]int{end + 8*d.below(3), 8 + 8*d.below(3)}
		places, end = append(places, p), p[0]+p[1]
	}
	im := withData(imageOf(functions...), end+d.below(9), places...)
	order := []byte("f")
	f, p := count-1, len(places)
	for f+p > 0 {
		if d.below(f+p) < f {
			order, f = append(order, 'f'), f-1
		} else {
			order, p = append(order, 'd'), p-1
		}
	}
	return inOrder(im, string(order))
}

// spoilSymbol changes something of a symbol, in most cases a little.
func spoilSymbol(d *dice, im *impl.Image) {
	y := &im.Symbols[d.below(len(im.Symbols))]
	switch d.below(8) {
	case 0:
		y.Name = []string{"", "9", "f0", "f1", "d0", "new"}[d.below(6)]
	case 1:
		y.Kind = d.below(5) - 1
	case 2:
		y.At += 4*d.below(7) - 12
	case 3:
		y.Size += 4*d.below(7) - 12
	case 4:
		y.Frame = 8 * d.below(18)
	case 5:
		y.At = greatNumbers[d.below(len(greatNumbers))]
	case 6:
		y.Size = greatNumbers[d.below(len(greatNumbers))]
	case 7:
		*y = im.Symbols[d.below(len(im.Symbols))]
	}
}

// recode lays an instruction somewhere into an image's code.
func recode(d *dice, im *impl.Image, x impl.Instr) {
	at := d.below(len(im.Code)/4) * 4
	im.Code = im.Code[:at] + wordsOf([]impl.Instr{x}) + im.Code[at+4:]
}

// spoilImage changes something of an image.
func spoilImage(d *dice, im *impl.Image) {
	i, j := d.below(len(im.Symbols)), d.below(len(im.Symbols))
	switch d.below(8) {
	case 0:
		im.Symbols[i], im.Symbols[j] = im.Symbols[j], im.Symbols[i]
	case 1:
		im.Symbols = slices.Delete(slices.Clone(im.Symbols), i, i+1)
	case 2:
		im.Code = im.Code[:len(im.Code)-4*d.below(6)]
	case 3:
		im.Data = im.Data[:len(im.Data)-min(len(im.Data), 1+d.below(8))]
	case 4:
		recode(d, im, samples[d.below(len(samples))])
	case 5:
		recode(d, im, impl.Instr{Op: impl.OpJal, Rd: 1, Imm: 4*d.below(40) - 80})
	default:
		spoilSymbol(d, im)
	}
}

func TestAnyImageByTheDocumentsWords(t *testing.T) {
	d := dice(12)
	told := map[int]int{}
	for range 20000 {
		im := anyRightImage(&d)
		for range d.below(3) {
			if len(im.Code) > 24 && len(im.Symbols) > 0 {
				spoilImage(&d, &im)
			}
		}
		n, where, code := imageByRule(im)
		checkImage(t, "any image", im, n, where, code)
		if told[code]++; t.Failed() {
			return
		}
	}
	for _, code := range []int{impl.OK, impl.ErrForm, impl.ErrClash, impl.ErrKind, impl.ErrRange, impl.ErrFrame, impl.ErrSymbol, impl.ErrEnd, impl.ErrCall, impl.ErrReg} {
		if told[code] < 100 {
			t.Errorf("only %d images of code %s", told[code], impl.CodeWord(code))
		}
	}
}
