package tests

import (
	"fmt"
	"slices"
	"strings"
	"testing"

	"loop.example/g00654/impl"
)

// memoryByRule is the memory into which an image is loaded, by the document's words.
func memoryByRule(im impl.Image) impl.Memory {
	areas := []struct {
		base, size, perm int
		bytes            string
	}{
		{4096, 1024, 4, im.Code}, {8192, 1024, 4, ""}, {16384, 256, 3, im.Data}, {20480, 256, 3, ""},
		{32768, 512, 11, ""}, {33792, 512, 11, ""}, {34816, 512, 11, ""}, {35840, 512, 11, ""},
	}
	m := impl.Memory{}
	for _, a := range areas {
		bytes := a.bytes + strings.Repeat("\x00", a.size-len(a.bytes))
		for at := 0; at < a.size; at += 128 {
			m.Pages = append(m.Pages, impl.Page{Base: a.base + at, Perm: a.perm, Data: bytes[at : at+128]})
		}
	}
	return m
}

func TestImagesAreLoadedAsTheyStand(t *testing.T) {
	for i, im := range rightImages() {
		m, code := impl.LoadImage(im)
		if code != impl.OK || !impl.MemoryOK(m) || len(m.Pages) != 36 || !samePages(m, memoryByRule(im)) {
			t.Errorf("image %d: LoadImage = %v, %d", i, m, code)
		}
	}
}

func TestAnyImageIsLoadedAsItStands(t *testing.T) {
	d := dice(14)
	for range 500 {
		im := anyRightImage(&d)
		if m, code := impl.LoadImage(im); code != impl.OK || !samePages(m, memoryByRule(im)) {
			t.Fatalf("LoadImage of %s: %v, %d", imageString(im), m, code)
		}
	}
}

// What is written into a memory that was answered is not seen in the next one.
func TestWhatIsLoadedIsNewMemory(t *testing.T) {
	im := mixedImage()
	first, _ := impl.LoadImage(im)
	clear(first.Pages)
	if second, _ := impl.LoadImage(im); !samePages(second, memoryByRule(im)) {
		t.Error("a memory shares its pages with the next one")
	}
}

// symbolAddress is where a symbol stands, by the document's words.
func symbolAddress(y impl.Symbol) int {
	if y.Kind == 1 {
		return 4096 + y.At
	}
	return 16384 + y.At
}

// At a symbol's address lie, in the loaded memory, the bytes that it has in the image.
func TestSymbolsStandWhereTheyAreLoaded(t *testing.T) {
	for i, im := range rightImages() {
		m, _ := impl.LoadImage(im)
		for n, y := range im.Symbols {
			address, code := impl.AddressOf(im, n)
			if address != symbolAddress(y) || code != impl.OK {
				t.Errorf("image %d: AddressOf(%d) = %d, %d", i, n, address, code)
			}
			from := im.Code
			if y.Kind == 2 {
				from = im.Data
			}
			if got, code := impl.GetBytes(m, address, y.Size); got != from[y.At:y.At+y.Size] || code != impl.OK {
				t.Errorf("image %d: symbol %d is loaded as %x, %d", i, n, got, code)
			}
		}
	}
}

func TestNumbersOfNoSymbol(t *testing.T) {
	for i, im := range rightImages() {
		for _, n := range []int{-1, -2, len(im.Symbols), len(im.Symbols) + 1, 16, 17, 4096, 4096 + im.Symbols[0].At, 1 << 32, leastInt, leastInt + 1, greatestInt} {
			if address, code := impl.AddressOf(im, n); address != 0 || code != impl.ErrSymbol {
				t.Errorf("image %d: AddressOf(%d) = %d, %d", i, n, address, code)
			}
		}
	}
}

func TestSymbolsAreFoundByTheirNames(t *testing.T) {
	for i, im := range rightImages() {
		for n, y := range im.Symbols {
			if got, code := impl.SymbolNamed(im, y.Name); got != n || code != impl.OK {
				t.Errorf("image %d: SymbolNamed(%q) = %d, %d", i, y.Name, got, code)
			}
			others := []string{y.Name + "x", y.Name + " ", " " + y.Name, strings.ToUpper(y.Name) + "_", y.Name + "\x00", y.Name[1:], y.Name[:len(y.Name)-1]}
			for _, name := range others {
				if !slices.ContainsFunc(im.Symbols, func(y impl.Symbol) bool { return y.Name == name }) {
					checkNoName(t, im, name, impl.ErrSymbol)
				}
			}
		}
		for _, name := range []string{"", " ", "9", "main", "f99", "\xff", strings.Repeat("a", 21), strings.Repeat("f0", impl.MaxText/2), strings.Repeat("a", impl.MaxText)} {
			checkNoName(t, im, name, impl.ErrSymbol)
		}
		checkNoName(t, im, strings.Repeat("a", impl.MaxText+1), impl.ErrLong)
		checkNoName(t, im, strings.Repeat("f0", impl.MaxText), impl.ErrLong)
	}
}

func checkNoName(t *testing.T, im impl.Image, name string, code int) {
	t.Helper()
	if got, gotCode := impl.SymbolNamed(im, name); got != 0 || gotCode != code {
		t.Errorf("SymbolNamed(%.30q) = %d, %d, not %d, of %s", name, got, gotCode, code, imageString(im))
	}
}

// symbolsByAddress has, of each address in a symbol, the symbol's number and how many bytes it lies behind the beginning.
func symbolsByAddress(im impl.Image) map[int][2]int {
	out := map[int][2]int{}
	for n, y := range im.Symbols {
		for off := range y.Size {
			out[symbolAddress(y)+off] = [2]int{n, off}
		}
	}
	return out
}

func checkSymbolAt(t *testing.T, im impl.Image, address int, all map[int][2]int) {
	t.Helper()
	want, here := all[address]
	code := codeUnless(here, impl.ErrSymbol)
	if n, off, gotCode := impl.SymbolAt(im, address); n != want[0] || off != want[1] || gotCode != code {
		t.Errorf("SymbolAt(%d) = %d, %d, %d, not %v, %d, of %s", address, n, off, gotCode, want, code, imageString(im))
	}
}

func TestSymbolsAreFoundByEachAddress(t *testing.T) {
	for i, im := range rightImages() {
		all := symbolsByAddress(im)
		for address := range all {
			checkSymbolAt(t, im, address, all)
		}
		for _, y := range im.Symbols {
			for off := -9; off <= 9; off++ {
				checkSymbolAt(t, im, symbolAddress(y)+off, all)
				checkSymbolAt(t, im, symbolAddress(y)+y.Size+off, all)
				checkSymbolAt(t, im, y.At+off, all)
			}
			for _, far := range []int{1 << 32, -1 << 32, 1 << 62, leastInt, 4096, -4096, 12288, -12288, 1 << 20} {
				checkSymbolAt(t, im, symbolAddress(y)+far, all)
			}
		}
		for _, v := range slices.Concat(someInts, greatNumbers, []int{-1, 0, 4095, 8191, 8192, 8193, 9215, 16383, 16640, 20480, 20488, 32768, 34303, 36352, 1048575, 1048576}) {
			checkSymbolAt(t, im, v, all)
		}
		if i%6 == 2 {
			for address := -100; address < 37000; address += 3 {
				checkSymbolAt(t, im, address, all)
			}
		}
	}
}

func TestStackTops(t *testing.T) {
	m, _ := impl.LoadImage(mixedImage())
	cells := cellsOf(m)
	for thread, want := range []int{33280, 34304, 35328, 36352} {
		top, code := impl.StackTop(thread)
		if top != want || code != impl.OK {
			t.Errorf("StackTop(%d) = %d, %d", thread, top, code)
		}
		if _, here := cells[top]; here || cells[top-1].perm != 11 {
			t.Errorf("%d is not just behind the stack of thread %d", top, thread)
		}
		if _, here := cells[top-513]; here || cells[top-512].perm != 11 {
			t.Errorf("the stack of thread %d does not begin 512 bytes ahead of %d", thread, top)
		}
	}
	for _, thread := range []int{-1, -2, -4, 4, 5, 8, 16, 1 << 32, 1<<32 + 1, 1 << 54, leastInt, leastInt + 1, greatestInt} {
		if top, code := impl.StackTop(thread); top != 0 || code != impl.ErrRange {
			t.Errorf("StackTop(%d) = %d, %d", thread, top, code)
		}
	}
}

// wrongImages has an image of each fault.
func wrongImages() map[string]impl.Image {
	wrong := map[string]impl.Image{"nothing": {}, "data alone": withData(impl.Image{}, 8, [2]int{0, 8}), "a name that is too long a text": renamedAt(mixedImage(), 0, strings.Repeat("a", impl.MaxText+1))}
	for _, s := range imageSpoilers() {
		im := mixedImage()
		s.spoil(&im)
		wrong[s.what] = im
	}
	return wrong
}

// An image that is not right comes ahead of all other faults but that of too long a text.
func TestWrongImagesComeFirst(t *testing.T) {
	for what, im := range wrongImages() {
		if text, code := impl.ImageText(im); text != "" || code != impl.ErrBad {
			t.Errorf("%s: ImageText = %x, %d", what, text, code)
		}
		if m, code := impl.LoadImage(im); len(m.Pages) != 0 || code != impl.ErrBad {
			t.Errorf("%s: LoadImage = %d pages, %d", what, len(m.Pages), code)
		}
		for _, v := range []int{0, 1, 6, 7, 17, -1, 4096, 4097, 16392, 8192, leastInt, greatestInt} {
			if address, code := impl.AddressOf(im, v); address != 0 || code != impl.ErrBad {
				t.Errorf("%s: AddressOf(%d) = %d, %d", what, v, address, code)
			}
			if n, off, code := impl.SymbolAt(im, v); n != 0 || off != 0 || code != impl.ErrBad {
				t.Errorf("%s: SymbolAt(%d) = %d, %d, %d", what, v, n, off, code)
			}
		}
		for _, name := range []string{"f0", "f3", "d2", "none", "", "9", strings.Repeat("a", impl.MaxText)} {
			checkNoName(t, im, name, impl.ErrBad)
		}
		checkNoName(t, im, strings.Repeat("a", impl.MaxText+1), impl.ErrLong)
	}
}

// imageAnswers tells all that the calls of the layer answer of an image.
func imageAnswers(im impl.Image) string {
	n, where, fault := impl.LintImage(im)
	text, textCode := impl.ImageText(im)
	m, loadCode := impl.LoadImage(im)
	address, addressCode := impl.AddressOf(im, 2)
	named, namedCode := impl.SymbolNamed(im, "f1")
	at, off, atCode := impl.SymbolAt(im, 4100)
	return fmt.Sprint(n, where, fault, text, textCode, m, loadCode, address, addressCode, named, namedCode, at, off, atCode)
}

// No call of the layer turns what it was given, nor what lies behind it.
func TestNoImageCallChangesWhatItWasGiven(t *testing.T) {
	images := rightImages()
	for _, im := range wrongImages() {
		images = append(images, im)
	}
	for _, im := range images {
		room := slices.Concat(im.Symbols, slices.Repeat([]impl.Symbol{{Name: "behind", Kind: 7, At: -1}}, 20))
		given := slices.Clone(room)
		lent := im
		lent.Symbols = room[:len(im.Symbols)]
		first := imageAnswers(lent)
		if !slices.Equal(room, given) {
			t.Errorf("a call changes the symbols of %s", imageString(im))
		}
		if imageAnswers(lent) != first {
			t.Errorf("another answer at the second time of %s", imageString(im))
		}
	}
}
