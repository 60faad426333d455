package tests

import (
	"fmt"
	"slices"
	"strings"
	"testing"

	"loop.example/g00654/impl"
)

const (
	leastAddend    = -2147483648
	greatestAddend = 2147483647
	longestName    = "abcdefghij_BCDEFGH89"
)

// replacing answers a function that replaces one.
func replacing(name string, frame, words int) impl.PatchFunc {
	return impl.PatchFunc{Name: name, Replaces: true, Frame: frame, Code: dataOf(4 * words)}
}

// adding answers a new function.
func adding(name string, frame, words int) impl.PatchFunc {
	return impl.PatchFunc{Name: name, Frame: frame, Code: dataOf(4 * words)}
}

// smallObject has as little as an object may have.
func smallObject() impl.Object {
	return impl.Object{Name: "a", Funcs: []impl.PatchFunc{replacing("f", 16, 5)}}
}

// mixedObject has units 0 to 2 of 5, 64 and 7 instructions, and units 3 to 5 of 1, 8 and 3 times eight bytes.
func mixedObject() impl.Object {
	return impl.Object{
		Name: "mixed", Depth: 3,
		Funcs: []impl.PatchFunc{replacing("f0", 16, 5), adding("f1", 128, 64), replacing("f2", 48, 7)},
		Datas: []impl.PatchData{{Name: "d0", Bytes: dataOf(8)}, {Name: "d1", Bytes: dataOf(64)}, {Name: "d2", Bytes: dataOf(24)}},
		Relocs: []impl.Reloc{
			{Unit: 0, At: 0, Kind: 1, Symbol: "d1"}, {Unit: 0, At: 4, Kind: 2, Symbol: "d1", Addend: -1}, {Unit: 1, At: 0, Kind: 3, Symbol: "x", Addend: 1},
			{Unit: 1, At: 62, Kind: 4, Symbol: longestName, Addend: leastAddend}, {Unit: 1, At: 63, Kind: 5, Symbol: "_", Addend: greatestAddend}, {Unit: 2, At: 1, Kind: 6, Symbol: "f1", Addend: 256},
			{Unit: 3, At: 0, Kind: 9, Symbol: "f0", Addend: -256}, {Unit: 4, At: 7, Kind: 9, Symbol: "f1", Addend: 65536}, {Unit: 5, At: 2, Kind: 9, Symbol: "d0", Addend: -65536},
		},
		Shadows: []impl.ShadowDecl{{Id: 0, Free: true}, {Id: 7}, {Id: 255, Free: true}},
	}
}

// endedName answers a name of the most bytes that ends with a number.
func endedName(n int) string { return longestName[:19] + fmt.Sprint(n) }

// fullObject has as much as an object may have.
func fullObject() impl.Object {
	o := impl.Object{Name: longestName, Depth: 5}
	for i := range 4 {
		o.Funcs = append(o.Funcs, impl.PatchFunc{Name: endedName(i), Replaces: i%2 == 1, Frame: 128, Code: dataOf(256)})
		o.Datas = append(o.Datas, impl.PatchData{Name: endedName(4 + i), Bytes: dataOf(64)})
		o.Shadows = append(o.Shadows, impl.ShadowDecl{Id: 252 + i, Free: i%2 == 0})
	}
	for i := range 32 {
		unit, at, kind := i/4, 60+i%4, 1+i%8
		if unit >= 4 {
			at, kind = 2*(i%4)+1, 9
		}
		o.Relocs = append(o.Relocs, impl.Reloc{Unit: unit, At: at, Kind: kind, Symbol: endedName(i % 8), Addend: []int{leastAddend, greatestAddend, -1, 0}[i%4]})
	}
	return o
}

// copied answers the object with lists of its own.
func copied(o impl.Object) impl.Object {
	o.Funcs, o.Datas = slices.Clone(o.Funcs), slices.Clone(o.Datas)
	o.Relocs, o.Shadows = slices.Clone(o.Relocs), slices.Clone(o.Shadows)
	return o
}

// changed answers a copy of the object that is changed.
func changed(o impl.Object, change func(o *impl.Object)) impl.Object {
	o = copied(o)
	change(&o)
	return o
}

// without answers the object without what a text of d, r and s says: data, relocations, Shadows.
func without(o impl.Object, what string) impl.Object {
	if strings.Contains(what, "d") {
		o.Datas = nil
	}
	if strings.Contains(what, "r") {
		o.Relocs = nil
	}
	if strings.Contains(what, "s") {
		o.Shadows = nil
	}
	return o
}

// withReloc answers mixedObject with just that relocation.
func withReloc(r impl.Reloc) impl.Object {
	o := mixedObject()
	o.Relocs = []impl.Reloc{r}
	return o
}

func rightObjects() []impl.Object {
	small, mixed, full := smallObject(), mixedObject(), fullObject()
	list := []impl.Object{small, mixed, full, without(full, "dr"), without(full, "r"), without(full, "s"), without(full, "rs"), without(mixed, "drs"), without(mixed, "rs")}
	add := func(o impl.Object, change func(o *impl.Object)) { list = append(list, changed(o, change)) }
	add(small, func(o *impl.Object) { o.Datas, o.Shadows = full.Datas, full.Shadows })
	add(small, func(o *impl.Object) { o.Funcs[0] = adding(longestName, 128, 64) })
	add(small, func(o *impl.Object) { o.Name, o.Funcs[0].Name = "f", "f" })
	add(without(full, "dr"), func(o *impl.Object) {
		for i := range 32 {
			o.Relocs = append(o.Relocs, impl.Reloc{Unit: i / 9, At: 7 * (i % 9), Kind: 1 + i%8, Symbol: "s"})
		}
	})
	for i, frame := range allFrames {
		add(small, func(o *impl.Object) { o.Funcs[0], o.Depth = adding("Z_", frame, 6+8*i), i%6 })
		add(small, func(o *impl.Object) { o.Datas = []impl.PatchData{{Name: "d", Bytes: dataOf(8 + 8*i)}} })
		add(mixed, func(o *impl.Object) { o.Relocs = []impl.Reloc{{Unit: 2, At: 6, Kind: 1 + i, Symbol: "s", Addend: i}} })
	}
	for _, addend := range []int{leastAddend, leastAddend + 1, -1, 0, 1, greatestAddend - 1, greatestAddend} {
		list = append(list, withReloc(impl.Reloc{Unit: 1, At: 5, Kind: 8, Symbol: "a", Addend: addend}), withReloc(impl.Reloc{Unit: 4, At: 3, Kind: 9, Symbol: "a", Addend: addend}))
	}
	return list
}

// unitsByRule answers how many places each unit of an object has, the functions' first.
func unitsByRule(o impl.Object) []int {
	var sizes []int
	for _, f := range o.Funcs {
		sizes = append(sizes, len(f.Code)/4)
	}
	for _, d := range o.Datas {
		sizes = append(sizes, len(d.Bytes)/8)
	}
	return sizes
}

// relocByRule is the code of a relocation, by the document's words.
func relocByRule(o impl.Object, n int) int {
	r, sizes := o.Relocs[n], unitsByRule(o)
	inData := r.Unit >= len(o.Funcs)
	switch {
	case r.Unit < 0 || r.Unit >= len(sizes) || r.At < 0 || r.At >= sizes[r.Unit]:
		return impl.ErrRange
	case r.Kind < 1 || r.Kind > 9 || inData != (r.Kind == 9):
		return impl.ErrKind
	case !impl.NameOK(r.Symbol):
		return impl.ErrForm
	case r.Addend < -2147483648 || r.Addend > 2147483647:
		return impl.ErrRange
	case n == 0:
		return impl.OK
	}
	ahead := o.Relocs[n-1]
	return codeUnless(r.Unit > ahead.Unit || r.Unit == ahead.Unit && r.At > ahead.At, impl.ErrClash)
}

// wholeByRule is the code of an object's parts together, by the document's words.
func wholeByRule(o impl.Object) int {
	switch {
	case !impl.NameOK(o.Name):
		return impl.ErrForm
	case o.Depth < 0 || o.Depth > 5:
		return impl.ErrDepth
	case len(o.Funcs) == 0:
		return impl.ErrNone
	}
	return codeUnless(len(o.Funcs) <= 4 && len(o.Datas) <= 4 && len(o.Relocs) <= 32 && len(o.Shadows) <= 4, impl.ErrMany)
}

// unitsFaultByRule is the first fault of functions and data, and its number, by the document's words.
func unitsFaultByRule(o impl.Object) (int, int) {
	names := map[string]int{}
	nameCode := func(name string) int {
		names[name]++
		if !impl.NameOK(name) {
			return impl.ErrForm
		}
		return codeUnless(names[name] == 1, impl.ErrClash)
	}
	for i, f := range o.Funcs {
		if code := nameCode(f.Name); code != impl.OK {
			return i, code
		}
		if !slices.Contains(allFrames, f.Frame) {
			return i, impl.ErrFrame
		}
		if n := len(f.Code); n%4 != 0 || n < 20 || n > 256 {
			return i, impl.ErrSize
		}
	}
	for i, d := range o.Datas {
		if code := nameCode(d.Name); code != impl.OK {
			return i, code
		}
		if !slices.Contains([]int{8, 16, 24, 32, 40, 48, 56, 64}, len(d.Bytes)) {
			return i, impl.ErrSize
		}
	}
	return 0, impl.OK
}

// objectByRule is what LintObject must answer, by the document's words.
func objectByRule(o impl.Object) (int, int) {
	if code := wholeByRule(o); code != impl.OK {
		return 0, code
	}
	if i, code := unitsFaultByRule(o); code != impl.OK {
		return i, code
	}
	for i := range o.Relocs {
		if code := relocByRule(o, i); code != impl.OK {
			return i, code
		}
	}
	least := 0
	for i, s := range o.Shadows {
		if s.Id < 0 || s.Id > 255 {
			return i, impl.ErrRange
		}
		if s.Id < least {
			return i, impl.ErrClash
		}
		least = s.Id + 1
	}
	return 0, impl.OK
}

func objectString(o impl.Object) string {
	out := fmt.Sprintf("%.30q, depth %d", o.Name, o.Depth)
	for _, f := range o.Funcs[:min(len(o.Funcs), 6)] {
		out += fmt.Sprintf(", %.30q %v frame %d with %d bytes", f.Name, f.Replaces, f.Frame, len(f.Code))
	}
	for _, d := range o.Datas[:min(len(o.Datas), 6)] {
		out += fmt.Sprintf(", data %.30q of %d bytes", d.Name, len(d.Bytes))
	}
	for _, r := range o.Relocs[:min(len(o.Relocs), 40)] {
		out += fmt.Sprintf(", {%d %d %d %.30q %d}", r.Unit, r.At, r.Kind, r.Symbol, r.Addend)
	}
	return out + fmt.Sprint(", ", o.Shadows[:min(len(o.Shadows), 9)])
}

// checkObject holds the answer for an object against what the document asks.
func checkObject(t *testing.T, what string, o impl.Object, n, code int) {
	t.Helper()
	if gotN, gotCode := impl.LintObject(o); gotN != n || gotCode != code {
		t.Errorf("%s: LintObject = %d, %s, not %d, %s, of %s", what, gotN, impl.CodeWord(gotCode), n, impl.CodeWord(code), objectString(o))
	}
	if impl.ObjectOK(o) != (code == impl.OK) {
		t.Errorf("%s: ObjectOK = %v of %s", what, code != impl.OK, objectString(o))
	}
}

// checkIf holds an object that is right, or has the fault of number n, against what is answered.
func checkIf(t *testing.T, what string, right bool, o impl.Object, n, code int) {
	t.Helper()
	checkObject(t, what, o, n*oneIf(!right), codeUnless(right, code))
}

func TestObjectConstants(t *testing.T) {
	got := []int{impl.MaxFuncs, impl.MaxDatas, impl.MaxRelocs, impl.MaxDecls, impl.MaxPatches, impl.MaxDatum, impl.MaxShadow,
		impl.RelHi20, impl.RelLo12I, impl.RelLo12S, impl.RelPcHi20, impl.RelPcLo12I, impl.RelPcLo12S, impl.RelJal, impl.RelBranch, impl.RelWord64}
	if !slices.Equal(got, []int{4, 4, 32, 4, 6, 64, 255, 1, 2, 3, 4, 5, 6, 7, 8, 9}) {
		t.Error("constants", got)
	}
}

func TestRightObjects(t *testing.T) {
	for i, o := range rightObjects() {
		checkObject(t, fmt.Sprint("right object ", i), o, 0, impl.OK)
	}
}

// noNames has texts that are no name; within an object one that is too long a text is just that.
var noNames = []string{"", "9", "9a", "a b", "a-", "é", "\x00", "a\n", strings.Repeat("a", 21), strings.Repeat("a", impl.MaxText+1)}

var moreNames = []string{"a", "Z", "_", "zz9", longestName, "FIX"}

func TestNamesOfObjects(t *testing.T) {
	for _, o := range []impl.Object{smallObject(), mixedObject(), fullObject(), {}} {
		for _, name := range noNames {
			o.Name = name
			checkObject(t, "no name", o, 0, impl.ErrForm)
		}
	}
	for _, name := range append(moreNames, "f0", "d0", "f") {
		checkObject(t, "another name", changed(mixedObject(), func(o *impl.Object) { o.Name = name }), 0, impl.OK)
	}
}

func TestDepthsOfObjects(t *testing.T) {
	for depth := -300; depth <= 300; depth++ {
		o := mixedObject()
		o.Depth = depth
		checkIf(t, fmt.Sprint("depth ", depth), depth >= 0 && depth <= 5, o, 0, impl.ErrDepth)
	}
	for _, depth := range append([]int{1 << 32, 1<<32 + 3}, greatNumbers...) {
		checkObject(t, fmt.Sprint("depth ", depth), impl.Object{Name: "a", Depth: depth}, 0, impl.ErrDepth)
	}
}

// severalFunctions answers n new functions; severalDatas, severalRelocs and severalDecls do likewise.
func severalFunctions(n int) []impl.PatchFunc {
	var list []impl.PatchFunc
	for i := range n {
		list = append(list, adding(fmt.Sprint("g", i), 16, 5))
	}
	return list
}

func severalDatas(n int) []impl.PatchData {
	var list []impl.PatchData
	for i := range n {
		list = append(list, impl.PatchData{Name: fmt.Sprint("e", i), Bytes: dataOf(8)})
	}
	return list
}

// severalRelocs are of unit 0, as long as that has places.
func severalRelocs(n int) []impl.Reloc {
	var list []impl.Reloc
	for i := range n {
		list = append(list, impl.Reloc{At: i, Kind: 7, Symbol: "s"})
	}
	return list
}

func severalDecls(n int) []impl.ShadowDecl {
	var list []impl.ShadowDecl
	for i := range n {
		list = append(list, impl.ShadowDecl{Id: i})
	}
	return list
}

func TestHowMuchAnObjectHas(t *testing.T) {
	long := impl.Object{Name: "long", Funcs: []impl.PatchFunc{adding("f", 16, 64)}}
	for _, n := range []int{0, 1, 2, 3, 4, 5, 6, 31, 32, 33, 34, 64, 255, 256, 257, 4096, 4097, 65537} {
		checkIf(t, fmt.Sprint(n, " data"), n <= 4, changed(long, func(o *impl.Object) { o.Datas = severalDatas(min(n, 300)) }), 0, impl.ErrMany)
		checkIf(t, fmt.Sprint(n, " relocations"), n <= 32, changed(long, func(o *impl.Object) { o.Relocs = severalRelocs(n) }), 0, impl.ErrMany)
		checkIf(t, fmt.Sprint(n, " Shadows"), n <= 4, changed(long, func(o *impl.Object) { o.Shadows = severalDecls(n) }), 0, impl.ErrMany)
		want := impl.ErrMany
		if n == 0 {
			want = impl.ErrNone
		}
		checkIf(t, fmt.Sprint(n, " functions"), n >= 1 && n <= 4, changed(long, func(o *impl.Object) { o.Funcs = severalFunctions(min(n, 300)) }), 0, want)
		checkIf(t, fmt.Sprint(n, " empty functions"), false, impl.Object{Name: "a", Funcs: make([]impl.PatchFunc, n)}, 0, []int{want, impl.ErrForm}[oneIf(n >= 1 && n <= 4)])
	}
	checkObject(t, "nothing", impl.Object{}, 0, impl.ErrForm)
	checkObject(t, "a name alone", impl.Object{Name: "a"}, 0, impl.ErrNone)
	checkObject(t, "no functions beside lists that are too long", impl.Object{Name: "a", Datas: severalDatas(5), Relocs: severalRelocs(33), Shadows: severalDecls(5)}, 0, impl.ErrNone)
	checkObject(t, "empty lists", impl.Object{Name: "a", Funcs: []impl.PatchFunc{adding("f", 16, 5)}, Datas: []impl.PatchData{}, Relocs: []impl.Reloc{}, Shadows: []impl.ShadowDecl{}}, 0, impl.OK)
}

// unitObjects has mixedObject and one of the most functions and data, without relocations.
func unitObjects() []impl.Object {
	return []impl.Object{without(mixedObject(), "r"), without(fullObject(), "r")}
}

func setName(o *impl.Object, unit int, name string) {
	if unit < len(o.Funcs) {
		o.Funcs[unit].Name = name
	} else {
		o.Datas[unit-len(o.Funcs)].Name = name
	}
}

func nameAt(o impl.Object, unit int) string {
	if unit < len(o.Funcs) {
		return o.Funcs[unit].Name
	}
	return o.Datas[unit-len(o.Funcs)].Name
}

func TestNamesOfUnits(t *testing.T) {
	for _, o := range unitObjects() {
		for unit := range unitsByRule(o) {
			n := unit
			if unit >= len(o.Funcs) {
				n -= len(o.Funcs)
			}
			for _, name := range noNames {
				checkObject(t, fmt.Sprint("no name of unit ", unit), changed(o, func(o *impl.Object) { setName(o, unit, name) }), n, impl.ErrForm)
			}
			for ahead := range unit {
				name := nameAt(o, ahead)
				checkObject(t, fmt.Sprint("unit ", unit, " with the name of ", ahead), changed(o, func(o *impl.Object) { setName(o, unit, name) }), n, impl.ErrClash)
			}
			own := nameAt(o, unit)
			for _, name := range append([]string{o.Name, strings.ToUpper(own), own[:len(own)-1], "_" + own[1:]}, moreNames...) {
				checkObject(t, "another name", changed(o, func(o *impl.Object) { setName(o, unit, name) }), 0, impl.OK)
			}
		}
	}
}

func TestFramesOfPatchFunctions(t *testing.T) {
	for _, o := range unitObjects() {
		for n := range o.Funcs {
			for frame := -40; frame <= 300; frame++ {
				checkIf(t, fmt.Sprint("frame ", frame), slices.Contains(allFrames, frame), changed(o, func(o *impl.Object) { o.Funcs[n].Frame = frame }), n, impl.ErrFrame)
			}
			for _, frame := range wrongFrames {
				checkObject(t, fmt.Sprint("frame ", frame), changed(o, func(o *impl.Object) { o.Funcs[n].Frame = frame }), n, impl.ErrFrame)
			}
		}
	}
}

// A Code that is too long a text is of another length, too: it is none of its own.
func TestLengthsOfUnits(t *testing.T) {
	for _, o := range unitObjects() {
		for n := range o.Funcs {
			for length := range 300 {
				right := length%4 == 0 && length >= 20 && length <= 256
				checkIf(t, fmt.Sprint(length, " bytes of code"), right, changed(o, func(o *impl.Object) { o.Funcs[n].Code = dataOf(length) }), n, impl.ErrSize)
			}
		}
		for n := range o.Datas {
			for length := range 100 {
				right := length%8 == 0 && length >= 8 && length <= 64
				checkIf(t, fmt.Sprint(length, " bytes of data"), right, changed(o, func(o *impl.Object) { o.Datas[n].Bytes = dataOf(length) }), n, impl.ErrSize)
			}
		}
		for _, length := range []int{512, 1024, 1040, 4096, 65536, 65540, 65544, 65556, 65792, 262144} {
			for n := range o.Funcs {
				checkObject(t, "long code", changed(o, func(o *impl.Object) { o.Funcs[n].Code = dataOf(length) }), n, impl.ErrSize)
			}
			for n := range o.Datas {
				checkObject(t, "long data", changed(o, func(o *impl.Object) { o.Datas[n].Bytes = dataOf(length) }), n, impl.ErrSize)
			}
		}
	}
}

func TestUnitsOfRelocations(t *testing.T) {
	for _, unit := range append([]int{-3, -2, -1, 6, 7, 8, 255, 256, 257, 1<<32 + 5}, greatNumbers...) {
		for _, at := range []int{0, 1, 4, -1, 64} {
			for _, kind := range []int{1, 9, 0} {
				checkObject(t, fmt.Sprint("unit ", unit), withReloc(impl.Reloc{Unit: unit, At: at, Kind: kind, Symbol: "s"}), 0, impl.ErrRange)
			}
		}
	}
	last := without(mixedObject(), "d")
	last.Relocs = []impl.Reloc{{Unit: 2, At: 0, Kind: 1, Symbol: "s"}}
	checkObject(t, "the last function", last, 0, impl.OK)
	last.Relocs[0].Unit = 3
	for kind := range 11 {
		last.Relocs[0].Kind = kind
		checkObject(t, "behind the last function", last, 0, impl.ErrRange)
	}
}

func TestPlacesOfRelocations(t *testing.T) {
	for unit, size := range unitsByRule(mixedObject()) {
		for kind := -1; kind <= 11; kind++ {
			fits := kind >= 1 && kind <= 8
			if unit >= 3 {
				fits = kind == 9
			}
			for at := -3; at <= 70; at++ {
				r := impl.Reloc{Unit: unit, At: at, Kind: kind, Symbol: "s", Addend: at}
				want := codeUnless(fits, impl.ErrKind)
				if at < 0 || at >= size {
					want = impl.ErrRange
				}
				checkObject(t, fmt.Sprint(r), withReloc(r), 0, want)
			}
		}
		for _, at := range append([]int{255, 256, 1<<32 + 1, 1 << 61, 1 << 60}, greatNumbers...) {
			checkObject(t, fmt.Sprint("unit ", unit, " at ", at), withReloc(impl.Reloc{Unit: unit, At: at, Kind: 1 + 8*oneIf(unit >= 3), Symbol: "s"}), 0, impl.ErrRange)
		}
	}
}

func TestKindsOfRelocations(t *testing.T) {
	mixed := mixedObject()
	for n, r := range mixed.Relocs {
		for _, kind := range append([]int{-1, 0, 10, 11, 255, 257, 265, 1<<32 + 1, 1<<32 + 9}, greatNumbers...) {
			checkObject(t, fmt.Sprint("kind ", kind), changed(mixed, func(o *impl.Object) { o.Relocs[n].Kind = kind }), n, impl.ErrKind)
		}
		for kind := 1; kind <= 9; kind++ {
			checkIf(t, fmt.Sprint("kind ", kind, " in unit ", r.Unit), (r.Unit >= 3) == (kind == 9), changed(mixed, func(o *impl.Object) { o.Relocs[n].Kind = kind }), n, impl.ErrKind)
		}
	}
}

func TestSymbolsAndAddendsOfRelocations(t *testing.T) {
	for _, o := range []impl.Object{mixedObject(), fullObject()} {
		for n := range o.Relocs {
			for _, name := range noNames {
				checkObject(t, "no name", changed(o, func(o *impl.Object) { o.Relocs[n].Symbol = name }), n, impl.ErrForm)
			}
			for _, name := range append([]string{o.Name, "f0", "d0"}, moreNames...) {
				checkObject(t, "another name", changed(o, func(o *impl.Object) { o.Relocs[n].Symbol = name }), 0, impl.OK)
			}
			for _, addend := range []int{leastAddend, leastAddend + 1, -65536, -1, 0, 1, 255, greatestAddend - 1, greatestAddend} {
				checkObject(t, fmt.Sprint("addend ", addend), changed(o, func(o *impl.Object) { o.Relocs[n].Addend = addend }), 0, impl.OK)
			}
			for _, addend := range []int{leastAddend - 1, leastAddend - 2, greatestAddend + 1, greatestAddend + 2, 1 << 32, 1<<32 + 5, -1 << 32, leastInt, leastInt + 1, greatestInt, greatestInt - 1} {
				checkObject(t, fmt.Sprint("addend ", addend), changed(o, func(o *impl.Object) { o.Relocs[n].Addend = addend }), n, impl.ErrRange)
			}
		}
	}
}

// Each two places, one behind the other: the second must be above the first.
func TestOrderOfRelocations(t *testing.T) {
	var all []impl.Reloc
	for unit, size := range unitsByRule(mixedObject()) {
		for _, at := range []int{0, 1, 2, size - 1} {
			if r := (impl.Reloc{Unit: unit, At: at, Kind: 1 + 8*oneIf(unit >= 3), Symbol: "s"}); at < size && !slices.Contains(all, r) {
				all = append(all, r)
			}
		}
	}
	for i, first := range all {
		for j, second := range all {
			above := second.Unit > first.Unit || second.Unit == first.Unit && second.At > first.At
			o := mixedObject()
			o.Relocs = []impl.Reloc{first, second}
			checkIf(t, fmt.Sprint(i, " and ", j), above, o, 1, impl.ErrClash)
			// Kind, Symbol and Addend have no part in it.
			o.Relocs[1].Symbol, o.Relocs[1].Addend = "other", -5
			checkIf(t, fmt.Sprint(i, " and another of ", j), above, o, 1, impl.ErrClash)
		}
	}
	for n := 1; n < len(mixedObject().Relocs); n++ {
		checkObject(t, "the same twice", changed(mixedObject(), func(o *impl.Object) { o.Relocs[n] = o.Relocs[n-1] }), n, impl.ErrClash)
		checkObject(t, "two swapped", changed(mixedObject(), func(o *impl.Object) { o.Relocs[n-1], o.Relocs[n] = o.Relocs[n], o.Relocs[n-1] }), n, impl.ErrClash)
	}
	// Just the one ahead counts, but that one is told first.
	low := changed(mixedObject(), func(o *impl.Object) { o.Relocs[1] = impl.Reloc{Unit: 2, At: 0, Kind: 1, Symbol: "s"} })
	checkObject(t, "a higher one ahead", low, 2, impl.ErrClash)
}

func TestShadowsOfObjects(t *testing.T) {
	for _, o := range []impl.Object{mixedObject(), fullObject(), changed(smallObject(), func(o *impl.Object) { o.Shadows = severalDecls(1) })} {
		for n := range o.Shadows {
			for _, id := range append([]int{-1, -2, -255, -256, 256, 257, 511, 1<<32 + 7}, greatNumbers...) {
				checkObject(t, fmt.Sprint("Id ", id), changed(o, func(o *impl.Object) { o.Shadows[n].Id = id }), n, impl.ErrRange)
			}
		}
	}
	for first := 0; first < 256; first += 5 {
		for second := range 256 {
			o := changed(smallObject(), func(o *impl.Object) { o.Shadows = []impl.ShadowDecl{{Id: first}, {Id: second, Free: true}} })
			checkIf(t, fmt.Sprint("Ids ", first, " and ", second), second > first, o, 1, impl.ErrClash)
		}
	}
	for n := 1; n < 4; n++ {
		checkObject(t, "an Id twice", changed(fullObject(), func(o *impl.Object) { o.Shadows[n] = o.Shadows[n-1] }), n, impl.ErrClash)
		checkObject(t, "a lower Id", changed(fullObject(), func(o *impl.Object) { o.Shadows[n].Id = o.Shadows[n-1].Id - 1 }), n, impl.ErrClash)
	}
}

// objectSpoiler brings a fault into mixedObject.
type objectSpoiler struct {
	what  string
	spoil func(o *impl.Object)
	n     int
	code  int
}

// functionSpoilers answers the faults of function n, in the document's order.
func functionSpoilers(n int) []objectSpoiler {
	set := func(what string, code int, change func(o *impl.Object, f *impl.PatchFunc)) objectSpoiler {
		return objectSpoiler{fmt.Sprint(what, " of function ", n), func(o *impl.Object) { change(o, &o.Funcs[n]) }, n, code}
	}
	list := []objectSpoiler{set("no name", impl.ErrForm, func(o *impl.Object, f *impl.PatchFunc) { f.Name = "9" })}
	if n > 0 {
		list = append(list, set("a name twice", impl.ErrClash, func(o *impl.Object, f *impl.PatchFunc) { f.Name = o.Funcs[n-1].Name }))
	}
	return append(list,
		set("a frame", impl.ErrFrame, func(o *impl.Object, f *impl.PatchFunc) { f.Frame = 24 }),
		set("a size", impl.ErrSize, func(o *impl.Object, f *impl.PatchFunc) { f.Code = f.Code[:16] }))
}

// dataSpoilers answers the faults of data n, in the document's order.
func dataSpoilers(n int) []objectSpoiler {
	set := func(what string, code int, change func(o *impl.Object, d *impl.PatchData)) objectSpoiler {
		return objectSpoiler{fmt.Sprint(what, " of data ", n), func(o *impl.Object) { change(o, &o.Datas[n]) }, n, code}
	}
	return []objectSpoiler{
		set("no name", impl.ErrForm, func(o *impl.Object, d *impl.PatchData) { d.Name = "" }),
		set("a function's name", impl.ErrClash, func(o *impl.Object, d *impl.PatchData) { d.Name = o.Funcs[0].Name }),
		set("a size", impl.ErrSize, func(o *impl.Object, d *impl.PatchData) { d.Bytes += "abcd" }),
	}
}

// relocSpoilers answers the faults of relocation n, in the document's order.
func relocSpoilers(n int) []objectSpoiler {
	set := func(what string, code int, change func(o *impl.Object, r *impl.Reloc)) objectSpoiler {
		return objectSpoiler{fmt.Sprint(what, " of relocation ", n), func(o *impl.Object) { change(o, &o.Relocs[n]) }, n, code}
	}
	list := []objectSpoiler{
		set("no unit", impl.ErrRange, func(o *impl.Object, r *impl.Reloc) { r.Unit = -1 }),
		set("no place", impl.ErrRange, func(o *impl.Object, r *impl.Reloc) { r.At = 64 }),
		set("no kind", impl.ErrKind, func(o *impl.Object, r *impl.Reloc) { r.Kind = 0 }),
		set("another kind", impl.ErrKind, func(o *impl.Object, r *impl.Reloc) { r.Kind = 9 - 8*oneIf(r.Unit >= 3) }),
		set("no symbol", impl.ErrForm, func(o *impl.Object, r *impl.Reloc) { r.Symbol = "a b" }),
		set("an addend", impl.ErrRange, func(o *impl.Object, r *impl.Reloc) { r.Addend = greatestAddend + 1 }),
	}
	if n == 0 {
		return list
	}
	return append(list, set("the place ahead", impl.ErrClash, func(o *impl.Object, r *impl.Reloc) {
		ahead := o.Relocs[n-1]
		r.Unit, r.At, r.Kind = ahead.Unit, ahead.At, ahead.Kind
	}))
}

// shadowSpoilers answers the faults of the declaration n, in the document's order.
func shadowSpoilers(n int) []objectSpoiler {
	set := func(what string, code int, change func(o *impl.Object, s *impl.ShadowDecl)) objectSpoiler {
		return objectSpoiler{fmt.Sprint(what, " of Shadows ", n), func(o *impl.Object) { change(o, &o.Shadows[n]) }, n, code}
	}
	list := []objectSpoiler{set("an Id", impl.ErrRange, func(o *impl.Object, s *impl.ShadowDecl) { s.Id = 256 })}
	if n == 0 {
		return list
	}
	return append(list, set("an Id twice", impl.ErrClash, func(o *impl.Object, s *impl.ShadowDecl) { s.Id = o.Shadows[n-1].Id }))
}

// wholeSpoilers has the faults of no list's element, in the document's order.
func wholeSpoilers() []objectSpoiler {
	return []objectSpoiler{
		{"no name", func(o *impl.Object) { o.Name = "9" }, 0, impl.ErrForm},
		{"a depth", func(o *impl.Object) { o.Depth = 6 }, 0, impl.ErrDepth},
		{"no functions", func(o *impl.Object) { o.Funcs = nil }, 0, impl.ErrNone},
		{"5 functions", func(o *impl.Object) { o.Funcs = slices.Concat(o.Funcs, severalFunctions(2)) }, 0, impl.ErrMany},
		{"5 data", func(o *impl.Object) { o.Datas = slices.Concat(o.Datas, severalDatas(2)) }, 0, impl.ErrMany},
		{"33 relocations", func(o *impl.Object) { o.Relocs = slices.Concat(o.Relocs, severalRelocs(24)) }, 0, impl.ErrMany},
		{"5 Shadows", func(o *impl.Object) { o.Shadows = slices.Concat(o.Shadows, severalDecls(2)) }, 0, impl.ErrMany},
	}
}

// objectSpoilers has the faults of objects, in the document's order.
func objectSpoilers() []objectSpoiler {
	list := wholeSpoilers()
	for n := range 3 {
		list = append(list, functionSpoilers(n)...)
	}
	for n := range 3 {
		list = append(list, dataSpoilers(n)...)
	}
	for n := range 9 {
		list = append(list, relocSpoilers(n)...)
	}
	for n := range 3 {
		list = append(list, shadowSpoilers(n)...)
	}
	return list
}

func TestFaultsOfObjectsInTheirOrder(t *testing.T) {
	list := objectSpoilers()
	for i, first := range list {
		checkObject(t, first.what, changed(mixedObject(), first.spoil), first.n, first.code)
		for _, later := range list[i+1:] {
			o := changed(mixedObject(), later.spoil)
			first.spoil(&o)
			checkObject(t, first.what+", "+later.what, o, first.n, first.code)
		}
	}
}

// In turn: the number of an element counts, not the kind of its fault.
func TestTheFirstElementCounts(t *testing.T) {
	for _, spoilers := range []func(n int) []objectSpoiler{functionSpoilers, dataSpoilers, relocSpoilers, shadowSpoilers} {
		for _, first := range spoilers(1) {
			for _, later := range spoilers(2) {
				o := changed(mixedObject(), later.spoil)
				first.spoil(&o)
				checkObject(t, first.what+", "+later.what, o, 1, first.code)
			}
		}
	}
}

// anyRightObject answers an object that is right.
func anyRightObject(d *dice) impl.Object {
	o := impl.Object{Name: []string{"a", "fix", longestName, "_9"}[d.below(4)], Depth: d.below(6)}
	for i := range 1 + d.below(4) {
		o.Funcs = append(o.Funcs, impl.PatchFunc{Name: fmt.Sprint("f", i), Replaces: d.below(2) == 0, Frame: allFrames[d.below(8)], Code: dataOf(20 + 4*d.below(60))})
	}
	for i := range d.below(5) {
		o.Datas = append(o.Datas, impl.PatchData{Name: fmt.Sprint("d", i), Bytes: dataOf(8 + 8*d.below(8))})
	}
	step := 1 + d.below(40)
	for unit, size := range unitsByRule(o) {
		for at := d.below(step); at < size && len(o.Relocs) < 32; at += 1 + d.below(step) {
			kind := 1 + d.below(8)
			if unit >= len(o.Funcs) {
				kind = 9
			}
			addend := []int{leastAddend, greatestAddend, -1, 0, d.below(1 << 30), -d.below(1 << 30)}[d.below(6)]
			o.Relocs = append(o.Relocs, impl.Reloc{Unit: unit, At: at, Kind: kind, Symbol: fmt.Sprint("f", d.below(5)), Addend: addend})
		}
	}
	id := 0
	for range d.below(5) {
		id += d.below(60)
		o.Shadows = append(o.Shadows, impl.ShadowDecl{Id: id, Free: d.below(2) == 0})
		id++
	}
	return o
}

// spoilUnit changes something of a function or of data.
func spoilUnit(d *dice, o *impl.Object) {
	unit := d.below(len(o.Funcs) + len(o.Datas))
	if d.below(3) == 0 {
		setName(o, unit, []string{"", "9", "f0", "f1", "d0", "new", longestName + "a"}[d.below(7)])
		return
	}
	if unit >= len(o.Funcs) {
		o.Datas[unit-len(o.Funcs)].Bytes = dataOf(4 * d.below(18))
		return
	}
	if d.below(2) == 0 {
		o.Funcs[unit].Frame = 8 * d.below(18)
	} else {
		o.Funcs[unit].Code = dataOf(2 * d.below(132))
	}
}

// spoilReloc changes something of a relocation, in most cases a little.
func spoilReloc(d *dice, r *impl.Reloc) {
	switch d.below(7) {
	case 0:
		r.Unit += d.below(5) - 2
	case 1:
		r.At += d.below(9) - 4
	case 2:
		r.Kind = d.below(12) - 1
	case 3:
		r.Symbol = []string{"", "9", "s", "a b"}[d.below(4)]
	case 4:
		r.Addend = []int{leastAddend - 1, greatestAddend + 1, leastInt, greatestInt, 5}[d.below(5)]
	case 5:
		r.At = greatNumbers[d.below(len(greatNumbers))]
	case 6:
		r.Unit = greatNumbers[d.below(len(greatNumbers))]
	}
}

// spoilObject changes something of an object.
func spoilObject(d *dice, o *impl.Object) {
	switch d.below(9) {
	case 0:
		o.Name, o.Depth = []string{"", "9", "a", "b"}[d.below(4)], d.below(9)-1
	case 1:
		o.Funcs = slices.Concat(o.Funcs, severalFunctions(d.below(4)))
	case 2:
		o.Datas = slices.Concat(o.Datas, severalDatas(d.below(4)))
	case 3:
		o.Shadows = append(o.Shadows, impl.ShadowDecl{Id: d.below(400) - 60})
	case 4:
		if len(o.Relocs) > 1 {
			i := 1 + d.below(len(o.Relocs)-1)
			o.Relocs[i-1], o.Relocs[i] = o.Relocs[i], o.Relocs[i-1]
		}
	case 5, 6:
		spoilUnit(d, o)
	default:
		if len(o.Relocs) > 0 {
			spoilReloc(d, &o.Relocs[d.below(len(o.Relocs))])
		}
	}
}

func TestAnyObjectByTheDocumentsWords(t *testing.T) {
	d := dice(15)
	told := map[int]int{}
	for range 20000 {
		o := anyRightObject(&d)
		for range d.below(3) {
			spoilObject(&d, &o)
		}
		n, code := objectByRule(o)
		checkObject(t, "any object", o, n, code)
		if told[code]++; t.Failed() {
			return
		}
	}
	for _, code := range []int{impl.OK, impl.ErrForm, impl.ErrDepth, impl.ErrMany, impl.ErrClash, impl.ErrFrame, impl.ErrSize, impl.ErrRange, impl.ErrKind} {
		if told[code] < 100 {
			t.Errorf("only %d objects of code %s", told[code], impl.CodeWord(code))
		}
	}
}
