package tests

import (
	"fmt"
	"maps"
	"reflect"
	"slices"
	"strings"
	"testing"

	"loop.example/g00654/impl"
)

const (
	lastBase = 1048448
	behind   = 1048576
	// whole is how many bytes a memory of all its pages has.
	whole = 8192
)

// wrongWidths has numbers that are no length of a load or a store.
var wrongWidths = []int{0, 3, 5, 6, 7, 9, 16, 128, -1, -8, leastInt, greatestInt}

// wrongBases has numbers that are no base of a page.
var wrongBases = []int{1, 64, 127, 129, -1, -127, -128, -16384, 1048447, 1048449, 1048575, behind, behind + 1, behind + 128, 1 << 32, leastInt, leastInt + 128, greatestInt, greatestInt - 127}

// wrongPerms has numbers that say of no page what may be done with it.
var wrongPerms = []int{-1, -8, -16, 16, 17, 31, 32, 1 << 32, 1<<32 + 3, leastInt, greatestInt}

// somePage answers a page no two neighbouring bytes of which are alike, half of them above 127.
func somePage(base, perm int) impl.Page {
	data := make([]byte, 128)
	for i := range data {
		data[i] = byte(base/128*59 + i*151 + 90)
	}
	return impl.Page{Base: base, Perm: perm, Data: string(data)}
}

// memoryOf answers a memory of such pages, each of the same Perm.
func memoryOf(perm int, bases ...int) impl.Memory {
	m := impl.Memory{}
	for _, base := range bases {
		m.Pages = append(m.Pages, somePage(base, perm))
	}
	return m
}

// basesFrom answers count bases, each step behind the one ahead.
func basesFrom(first, step, count int) []int {
	var out []int
	for i := range count {
		out = append(out, first+i*step)
	}
	return out
}

// fullMemory has as many pages as a memory may have, side by side from 4096 on.
func fullMemory() impl.Memory { return memoryOf(3, basesFrom(4096, 128, 64)...) }

// mixedMemory has a page of each Perm; some stand side by side, some alone, one first of all and one last of all.
func mixedMemory() impl.Memory {
	m := impl.Memory{}
	for perm, base := range []int{0, 128, 256, 512, 1024, 1152, 1280, 1408, 1536, 4096, 16384, 16512, 20480, 32768, 32896, lastBase} {
		m.Pages = append(m.Pages, somePage(base, perm))
	}
	return m
}

func rightMemories() []impl.Memory {
	list := []impl.Memory{{}, {Pages: []impl.Page{}}, mixedMemory(), fullMemory(), memoryOf(15, basesFrom(0, 16384, 64)...), memoryOf(3, basesFrom(lastBase-63*128, 128, 64)...)}
	for perm := range 16 {
		list = append(list, memoryOf(perm, 0), memoryOf(perm, 16384, 16512), memoryOf(perm, lastBase))
	}
	return list
}

// wrongMemories has memories each with one thing that is not right, by what it is.
func wrongMemories() map[string]impl.Memory {
	wrong := map[string]impl.Memory{
		"a page twice":            memoryOf(3, 0, 128, 128),
		"the first page twice":    memoryOf(3, 0, 0),
		"pages that fall":         memoryOf(3, 128, 0),
		"the last page falls":     memoryOf(3, 0, 256, 128),
		"the first page too far":  memoryOf(3, 512, 128, 256),
		"a page too many":         memoryOf(3, basesFrom(0, 128, 65)...),
		"many pages too many":     memoryOf(3, basesFrom(0, 128, 5000)...),
		"a wrong base at the end": memoryOf(3, 0, 128, behind),
		"a wrong base ahead":      memoryOf(3, -128, 0, 128),
		"a wrong base between":    memoryOf(3, 0, 130, 256),
	}
	for _, base := range wrongBases {
		wrong[fmt.Sprint("base ", base)] = memoryOf(3, base)
	}
	for _, perm := range wrongPerms {
		wrong[fmt.Sprint("perm ", perm)] = memoryOf(perm, 0)
		last := memoryOf(3, 0, 128, 256)
		last.Pages[2].Perm = perm
		wrong[fmt.Sprint("the last page's perm ", perm)] = last
	}
	for _, size := range []int{0, 1, 8, 126, 127, 129, 256, whole, impl.MaxText + 1} {
		wrong[fmt.Sprint(size, " bytes of data")] = impl.Memory{Pages: []impl.Page{{Perm: 3, Data: strings.Repeat("a", size)}}}
		last := memoryOf(3, 0, 128, 256)
		last.Pages[2].Data = strings.Repeat("a", size)
		wrong[fmt.Sprint("the last page has ", size, " bytes")] = last
	}
	return wrong
}

// cell is a byte of a memory, and the Perm of its page.
type cell struct {
	value byte
	perm  int
}

// cellsOf answers what a memory has at each address.
func cellsOf(m impl.Memory) map[int]cell {
	cells := map[int]cell{}
	for _, p := range m.Pages {
		for i := range len(p.Data) {
			cells[p.Base+i] = cell{p.Data[i], p.Perm}
		}
	}
	return cells
}

// bytesAt answers the n bytes of the cells from an address on, and whether all are there.
func bytesAt(cells map[int]cell, address, n int) (string, bool) {
	var out []byte
	for i := range n {
		c, here := cells[address+i]
		if !here {
			return "", false
		}
		out = append(out, c.value)
	}
	return string(out), true
}

// faultByRule is the code of a load, a store or a fetch of a right width, fault by fault in the document's order.
func faultByRule(cells map[int]cell, address, n, perm int, stack bool) int {
	first, here := cells[address]
	if address%n != 0 {
		return impl.ErrAlign
	}
	if !here {
		return impl.ErrPage
	}
	if first.perm/perm%2 == 0 {
		return impl.ErrPerm
	}
	if first.perm/8%2 == 1 && !stack {
		return impl.ErrStack
	}
	return impl.OK
}

// numberByRule is what n bytes tell: 8 of them with a sign, fewer without.
func numberByRule(text string) int {
	v := 0
	for i := len(text) - 1; i >= 0; i-- {
		v = v*256 + int(text[i])
	}
	return v
}

func checkLoad(t *testing.T, m impl.Memory, cells map[int]cell, address, n int, stack bool) {
	t.Helper()
	want, code := 0, faultByRule(cells, address, n, 1, stack)
	if code == impl.OK {
		text, _ := bytesAt(cells, address, n)
		want = numberByRule(text)
	}
	if got, gotCode := impl.LoadAt(m, address, n, stack); got != want || gotCode != code {
		t.Fatalf("LoadAt(%d, %d, %v) = %d, %d, not %d, %d", address, n, stack, got, gotCode, want, code)
	}
}

func checkStore(t *testing.T, m impl.Memory, cells map[int]cell, address, n, v int, stack bool) {
	t.Helper()
	code := faultByRule(cells, address, n, 2, stack)
	want := maps.Clone(cells)
	if code == impl.OK {
		for i, c := range []byte(littleByBits(v, n)) {
			want[address+i] = cell{c, cells[address+i].perm}
		}
	}
	got, gotCode := impl.StoreAt(m, address, n, v, stack)
	if gotCode != code || !impl.MemoryOK(got) || len(got.Pages) != len(m.Pages) || !maps.Equal(cellsOf(got), want) {
		t.Fatalf("StoreAt(%d, %d, %d, %v): %d, not %d, or other bytes", address, n, v, stack, gotCode, code)
	}
	if code == impl.OK && cells[address].perm%2 == 1 {
		if back, gotCode := impl.LoadAt(got, address, n, stack); back != numberByRule(littleByBits(v, n)) || gotCode != impl.OK {
			t.Fatalf("StoreAt(%d, %d, %d, %v) is loaded as %d, %d", address, n, v, stack, back, gotCode)
		}
	}
}

func checkFetch(t *testing.T, m impl.Memory, cells map[int]cell, address int) {
	t.Helper()
	want, code := 0, faultByRule(cells, address, 4, 4, true)
	if code == impl.OK {
		text, _ := bytesAt(cells, address, 4)
		want = numberByRule(text)
	}
	if got, gotCode := impl.FetchAt(m, address); got != want || gotCode != code {
		t.Fatalf("FetchAt(%d) = %d, %d, not %d, %d", address, got, gotCode, want, code)
	}
}

// addressesNear answers the addresses of a page, and some ahead of it and behind.
func addressesNear(base int) []int { return basesFrom(base-9, 1, 128+18) }

// wildAddresses has addresses that no page has, some of them multiples of each width.
var wildAddresses = []int{-1, -2, -4, -7, -8, -120, -128, -129, behind, behind + 4, behind + 8, 1 << 32, 1<<32 + 16384, -1 << 32, leastInt, leastInt + 1, leastInt + 8, leastInt + 16384, greatestInt, greatestInt - 3, greatestInt - 7, greatestInt - 127}

func TestMemoryConstants(t *testing.T) {
	got := []int{impl.PageSize, impl.MaxPages, impl.MaxAddress, impl.PermRead, impl.PermWrite, impl.PermRun, impl.PermStack}
	if want := []int{128, 64, 1048575, 1, 2, 4, 8}; !slices.Equal(got, want) {
		t.Error("the constants are", got)
	}
}

func TestMemoriesThatAreRight(t *testing.T) {
	for i, m := range rightMemories() {
		if !impl.MemoryOK(m) || !impl.SameMemory(m, m) {
			t.Error("memory", i, "is refused")
		}
	}
}

// badCalls answers what each call with a code, of some right and some wrong further arguments, answers of a memory that is not right.
func badCalls(m impl.Memory) []memoryAnswer {
	var out []memoryAnswer
	for _, address := range []int{0, 1, 128, 256, 4096, leastInt, greatestInt} {
		for _, n := range []int{8, 1, 0, 3, -1, 8193} {
			number, code := impl.LoadAt(m, address, n, true)
			out = append(out, memoryAnswer{number: number, code: code})
			stored, code := impl.StoreAt(m, address, n, 5, true)
			out = append(out, memoryAnswer{memory: stored, code: code})
			text, code := impl.GetBytes(m, address, n)
			out = append(out, memoryAnswer{text: text, code: code})
		}
		for _, perm := range []int{3, 16, -1} {
			added, code := impl.AddPage(m, address, perm)
			out = append(out, memoryAnswer{memory: added, code: code})
			turned, code := impl.SetPerm(m, address, perm)
			out = append(out, memoryAnswer{memory: turned, code: code})
		}
		for _, text := range []string{"", "a", strings.Repeat("a", whole+1), strings.Repeat("a", impl.MaxText)} {
			laid, code := impl.PutBytes(m, address, text)
			out = append(out, memoryAnswer{memory: laid, code: code})
		}
		word, code := impl.FetchAt(m, address)
		out = append(out, memoryAnswer{number: word, code: code})
	}
	return out
}

// memoryAnswer is all that any call of chapter 5 may answer.
type memoryAnswer struct {
	number int
	text   string
	memory impl.Memory
	code   int
}

func (a memoryAnswer) isAlone(code int) bool {
	return a.code == code && a.number == 0 && a.text == "" && len(a.memory.Pages) == 0
}

func TestMemoriesThatAreNotRight(t *testing.T) {
	for what, m := range wrongMemories() {
		if impl.MemoryOK(m) || impl.SameMemory(m, m) || impl.SameMemory(m, impl.Memory{}) || impl.SameMemory(impl.Memory{}, m) {
			t.Error(what, "is right")
		}
		for i, a := range badCalls(m) {
			if !a.isAlone(impl.ErrBad) {
				t.Error(what, "call", i, "answers", a.number, a.text, len(a.memory.Pages), a.code)
			}
		}
		if got, code := impl.PutBytes(m, 0, strings.Repeat("a", impl.MaxText+1)); len(got.Pages) != 0 || code != impl.ErrLong {
			t.Error(what, "with a text that is too long:", code)
		}
	}
}

func TestLoadsAndFetchesAtEachPlace(t *testing.T) {
	for _, m := range []impl.Memory{{}, mixedMemory(), memoryOf(1, 16384), memoryOf(1, 0, 128), memoryOf(13, lastBase)} {
		cells := cellsOf(m)
		addresses := slices.Clone(wildAddresses)
		for _, p := range m.Pages {
			addresses = append(addresses, addressesNear(p.Base)...)
		}
		for _, address := range addresses {
			checkFetch(t, m, cells, address)
			for _, n := range widths {
				checkLoad(t, m, cells, address, n, false)
				checkLoad(t, m, cells, address, n, true)
			}
		}
	}
}

func TestStoresAtEachPlace(t *testing.T) {
	for _, m := range []impl.Memory{{}, memoryOf(3, 0), memoryOf(11, 16384), memoryOf(3, lastBase-256, lastBase-128, lastBase)} {
		cells := cellsOf(m)
		addresses := slices.Clone(wildAddresses)
		for _, p := range m.Pages {
			addresses = append(addresses, addressesNear(p.Base)...)
		}
		for i, address := range addresses {
			for _, n := range widths {
				v := someInts[i%len(someInts)]
				checkStore(t, m, cells, address, n, v, false)
				checkStore(t, m, cells, address, n, v, true)
			}
		}
	}
}

func TestStoresOfEachValue(t *testing.T) {
	m := memoryOf(3, 16384)
	cells := cellsOf(m)
	for _, v := range someInts {
		for _, n := range widths {
			for _, address := range []int{16384, 16392, 16504} {
				checkStore(t, m, cells, address, n, v, false)
			}
		}
	}
}

func TestStoresOfEachPerm(t *testing.T) {
	m := mixedMemory()
	cells := cellsOf(m)
	for _, p := range m.Pages {
		for _, n := range widths {
			for _, address := range []int{p.Base - 8, p.Base, p.Base + 64, p.Base + 120, p.Base + 128 - n, p.Base + 127, p.Base + 128} {
				checkStore(t, m, cells, address, n, -p.Perm-2, false)
				checkStore(t, m, cells, address, n, p.Perm+0x0102030405060708, true)
			}
		}
	}
}

// permRows has, of each Perm from 0 to 15, the codes of a load and of a store not through register 2, of both through it, and of a fetch.
const permRows = `perm perm perm perm perm
ok perm ok perm perm
perm ok perm ok perm
ok ok ok ok perm
perm perm perm perm ok
ok perm ok perm ok
perm ok perm ok ok
ok ok ok ok ok
perm perm perm perm perm
stack perm ok perm perm
perm stack perm ok perm
stack stack ok ok perm
perm perm perm perm ok
stack perm ok perm ok
perm stack perm ok ok
stack stack ok ok ok`

func TestPagesAllowWhatTheirPermSays(t *testing.T) {
	perm := 0
	for row := range strings.Lines(permRows) {
		m := memoryOf(perm, 4096)
		for _, n := range widths {
			_, load := impl.LoadAt(m, 4096+n, n, false)
			_, store := impl.StoreAt(m, 4096+n, n, 1, false)
			_, stackLoad := impl.LoadAt(m, 4096+n, n, true)
			_, stackStore := impl.StoreAt(m, 4096+n, n, 1, true)
			_, fetch := impl.FetchAt(m, 4096+4*n)
			var words []string
			for _, code := range []int{load, store, stackLoad, stackStore, fetch} {
				words = append(words, impl.CodeWord(code))
			}
			if got := strings.Join(words, " "); got != strings.TrimSpace(row) {
				t.Errorf("perm %d, %d bytes: %s, not %s", perm, n, got, row)
			}
		}
		perm++
	}
	if perm != 16 {
		t.Error("there are", perm, "rows")
	}
}

func TestWidthsThatAreNoneOfMemory(t *testing.T) {
	for _, m := range []impl.Memory{{}, memoryOf(0, 16384), memoryOf(8, 16384), memoryOf(3, 16384)} {
		for _, n := range wrongWidths {
			for _, address := range []int{16384, 16385, 16512, -1, leastInt, greatestInt} {
				if got, code := impl.LoadAt(m, address, n, false); got != 0 || code != impl.ErrRange {
					t.Errorf("LoadAt(%d, %d) = %d, %d", address, n, got, code)
				}
				if got, code := impl.StoreAt(m, address, n, 1, false); len(got.Pages) != 0 || code != impl.ErrRange {
					t.Errorf("StoreAt(%d, %d): %d pages, %d", address, n, len(got.Pages), code)
				}
			}
		}
	}
}

// faultRows has places with one fault after the other, of a page without any right at 0, a stack's that is read at 128, a stack's that is written at 256, and none at 384.
var faultRows = []struct{ address, n, load, store int }{
	{385, 2, impl.ErrAlign, impl.ErrAlign}, {388, 8, impl.ErrAlign, impl.ErrAlign}, {-1, 4, impl.ErrAlign, impl.ErrAlign}, {greatestInt, 8, impl.ErrAlign, impl.ErrAlign},
	{1, 8, impl.ErrAlign, impl.ErrAlign}, {130, 4, impl.ErrAlign, impl.ErrAlign}, {257, 2, impl.ErrAlign, impl.ErrAlign},
	{384, 8, impl.ErrPage, impl.ErrPage}, {385, 1, impl.ErrPage, impl.ErrPage}, {-8, 8, impl.ErrPage, impl.ErrPage}, {-1, 1, impl.ErrPage, impl.ErrPage}, {leastInt, 8, impl.ErrPage, impl.ErrPage}, {greatestInt, 1, impl.ErrPage, impl.ErrPage},
	{0, 8, impl.ErrPerm, impl.ErrPerm}, {128, 8, impl.ErrStack, impl.ErrPerm}, {256, 8, impl.ErrPerm, impl.ErrStack}, {383, 1, impl.ErrPerm, impl.ErrStack},
}

func TestFaultsInTheirOrder(t *testing.T) {
	m := impl.Memory{Pages: []impl.Page{somePage(0, 8), somePage(128, 13), somePage(256, 14)}}
	for _, r := range faultRows {
		if got, code := impl.LoadAt(m, r.address, r.n, false); got != 0 || code != r.load {
			t.Errorf("LoadAt(%d, %d) = %d, %d", r.address, r.n, got, code)
		}
		if got, code := impl.StoreAt(m, r.address, r.n, -1, false); !reflect.DeepEqual(got, m) || code != r.store {
			t.Errorf("StoreAt(%d, %d): %d, or other bytes", r.address, r.n, code)
		}
	}
	for _, row := range [][2]int{{386, impl.ErrAlign}, {2, impl.ErrAlign}, {129, impl.ErrAlign}, {-2, impl.ErrAlign}, {384, impl.ErrPage}, {-4, impl.ErrPage}, {greatestInt - 3, impl.ErrPage}, {124, impl.ErrPerm}, {128, impl.OK}, {380, impl.OK}} {
		if _, code := impl.FetchAt(m, row[0]); code != row[1] {
			t.Errorf("FetchAt(%d): %d", row[0], code)
		}
	}
}

// added asks that AddPage lays a page of noughts in its place, and answers the memory then.
func added(t *testing.T, m impl.Memory, base, perm int) impl.Memory {
	t.Helper()
	want := slices.Clone(m.Pages)
	want = append(want, impl.Page{Base: base, Perm: perm, Data: string(make([]byte, 128))})
	slices.SortFunc(want, func(a, b impl.Page) int { return a.Base - b.Base })
	got, code := impl.AddPage(m, base, perm)
	if code != impl.OK || !slices.Equal(got.Pages, want) || !impl.MemoryOK(got) {
		t.Fatalf("AddPage(%d, %d) to %d pages: %d, or other pages", base, perm, len(m.Pages), code)
	}
	return got
}

func TestPagesAreAddedInTheirPlaces(t *testing.T) {
	for perm := range 16 {
		for _, base := range []int{0, 128, 16384, lastBase} {
			added(t, impl.Memory{}, base, perm)
		}
	}
	// Each step is odd, so that each of the 64 places comes once.
	for _, step := range []int{1, 3, 29, 63} {
		m := impl.Memory{}
		for i := range 64 {
			m = added(t, m, i*step%64*16384+128, i%16)
		}
		for _, base := range []int{0, 512, lastBase} {
			if got, code := impl.AddPage(m, base, 3); code != impl.ErrFull || !reflect.DeepEqual(got, m) {
				t.Errorf("AddPage(%d) to all pages: %d, or other pages", base, code)
			}
		}
		for _, p := range m.Pages {
			if got, code := impl.AddPage(m, p.Base, 3); code != impl.ErrClash || !reflect.DeepEqual(got, m) {
				t.Errorf("AddPage(%d) to all pages: %d, or other pages", p.Base, code)
			}
		}
	}
}

func TestPagesThatAreThereAlready(t *testing.T) {
	m := mixedMemory()
	for _, p := range m.Pages {
		for _, perm := range []int{0, p.Perm, 15} {
			if got, code := impl.AddPage(m, p.Base, perm); code != impl.ErrClash || !reflect.DeepEqual(got, m) {
				t.Errorf("AddPage(%d, %d): %d, or other pages", p.Base, perm, code)
			}
		}
	}
}

func TestSetPermTurnsJustOnePage(t *testing.T) {
	for _, m := range []impl.Memory{mixedMemory(), fullMemory(), memoryOf(0, lastBase)} {
		for i, p := range m.Pages {
			for perm := range 16 {
				want := slices.Clone(m.Pages)
				want[i].Perm = perm
				if got, code := impl.SetPerm(m, p.Base, perm); code != impl.OK || !slices.Equal(got.Pages, want) {
					t.Fatalf("SetPerm(%d, %d): %d, or other pages", p.Base, perm, code)
				}
			}
		}
		for _, base := range []int{640, 8192 + 4096, 131072, lastBase - 128} {
			if got, code := impl.SetPerm(m, base, 3); code != impl.ErrPage || !reflect.DeepEqual(got, m) {
				t.Errorf("SetPerm(%d, 3): %d, or other pages", base, code)
			}
		}
	}
	if got, code := impl.SetPerm(impl.Memory{}, 0, 0); code != impl.ErrPage || len(got.Pages) != 0 {
		t.Error("SetPerm of no page:", code)
	}
}

func TestBasesAndPermsThatAreNone(t *testing.T) {
	for _, m := range []impl.Memory{{}, mixedMemory(), fullMemory()} {
		rows := [][2]int{{-128, 16}, {behind, -1}}
		for _, base := range wrongBases {
			rows = append(rows, [2]int{base, 0}, [2]int{base, 15})
		}
		for _, perm := range wrongPerms {
			rows = append(rows, [2]int{0, perm}, [2]int{4096, perm}, [2]int{lastBase, perm})
		}
		for _, r := range rows {
			if got, code := impl.AddPage(m, r[0], r[1]); code != impl.ErrRange || len(got.Pages) != 0 {
				t.Errorf("AddPage(%d, %d): %d pages, %d", r[0], r[1], len(got.Pages), code)
			}
			if got, code := impl.SetPerm(m, r[0], r[1]); code != impl.ErrRange || len(got.Pages) != 0 {
				t.Errorf("SetPerm(%d, %d): %d pages, %d", r[0], r[1], len(got.Pages), code)
			}
		}
	}
}

func checkGet(t *testing.T, m impl.Memory, cells map[int]cell, address, n int) {
	t.Helper()
	want, here := bytesAt(cells, address, n)
	code := impl.OK
	if !here {
		want, code = "", impl.ErrPage
	}
	if got, gotCode := impl.GetBytes(m, address, n); got != want || gotCode != code {
		t.Fatalf("GetBytes(%d, %d): %d bytes, %d, not %d", address, n, len(got), gotCode, code)
	}
}

func checkPut(t *testing.T, m impl.Memory, cells map[int]cell, address int, text string) {
	t.Helper()
	_, here := bytesAt(cells, address, len(text))
	want, code := maps.Clone(cells), impl.ErrPage
	if here {
		code = impl.OK
		for i, c := range []byte(text) {
			want[address+i] = cell{c, cells[address+i].perm}
		}
	}
	got, gotCode := impl.PutBytes(m, address, text)
	if gotCode != code || !impl.MemoryOK(got) || len(got.Pages) != len(m.Pages) || !maps.Equal(cellsOf(got), want) {
		t.Fatalf("PutBytes(%d, %d bytes): %d, not %d, or other bytes", address, len(text), gotCode, code)
	}
	if back, backCode := impl.GetBytes(got, address, len(text)); code == impl.OK && (back != text || backCode != impl.OK) {
		t.Fatalf("PutBytes(%d, %d bytes) is not got back: %d", address, len(text), backCode)
	}
}

// otherText answers n bytes that are unlike those of somePage.
func otherText(n int) string {
	out := make([]byte, n)
	for i := range out {
		out[i] = byte(i*i*7 + i/128 + 33)
	}
	return string(out)
}

func TestBytesOfOnePageOfTwoAndOfMany(t *testing.T) {
	sizes := []int{0, 1, 2, 8, 127, 128, 129, 255, 256, 257, 384, 385, 512, 1000}
	for _, m := range []impl.Memory{{}, mixedMemory(), memoryOf(0, lastBase-128, lastBase), memoryOf(8, 0, 128, 256)} {
		cells := cellsOf(m)
		addresses := slices.Clone(wildAddresses)
		for _, p := range m.Pages {
			addresses = append(addresses, p.Base-1, p.Base, p.Base+1, p.Base+63, p.Base+126, p.Base+127, p.Base+128)
		}
		for _, address := range addresses {
			for _, n := range sizes {
				checkGet(t, m, cells, address, n)
				checkPut(t, m, cells, address, otherText(n))
			}
		}
	}
}

func TestBytesOfAllPages(t *testing.T) {
	m := fullMemory()
	cells := cellsOf(m)
	last := memoryOf(0, basesFrom(lastBase-63*128, 128, 64)...)
	for _, n := range []int{0, 1, 127, 4096, whole - 1, whole} {
		for _, address := range []int{4095, 4096, 4097, 4096 + 100, 4096 + whole - n, 4096 + whole - n + 1} {
			checkGet(t, m, cells, address, n)
			checkPut(t, m, cells, address, otherText(n))
		}
		checkGet(t, last, cellsOf(last), behind-n, n)
		checkPut(t, last, cellsOf(last), behind-n, otherText(n))
	}
	hole := impl.Memory{Pages: slices.Delete(slices.Clone(m.Pages), 40, 41)}
	checkGet(t, hole, cellsOf(hole), 4096, whole)
	checkPut(t, hole, cellsOf(hole), 4096, otherText(whole))
}

func TestBytesThatAreTooMany(t *testing.T) {
	for _, m := range []impl.Memory{{}, mixedMemory(), fullMemory()} {
		for _, address := range []int{0, 4096, -1, leastInt, greatestInt} {
			for _, n := range []int{-1, -128, whole + 1, impl.MaxText, leastInt, greatestInt} {
				if got, code := impl.GetBytes(m, address, n); got != "" || code != impl.ErrRange {
					t.Errorf("GetBytes(%d, %d): %d bytes, %d", address, n, len(got), code)
				}
			}
			for _, n := range []int{whole + 1, 2 * whole, impl.MaxText} {
				if got, code := impl.PutBytes(m, address, otherText(n)); code != impl.ErrPage || !slices.Equal(got.Pages, m.Pages) {
					t.Errorf("PutBytes(%d, %d bytes): %d, or other bytes", address, n, code)
				}
			}
			if got, code := impl.PutBytes(m, address, otherText(impl.MaxText+1)); code != impl.ErrLong || len(got.Pages) != 0 {
				t.Errorf("PutBytes(%d) of a text that is too long: %d pages, %d", address, len(got.Pages), code)
			}
		}
	}
}

func TestSameMemory(t *testing.T) {
	list := rightMemories()
	for i, a := range list {
		for j, b := range list {
			want := maps.Equal(cellsOf(a), cellsOf(b))
			if impl.SameMemory(a, b) != want {
				t.Errorf("SameMemory of %d and %d is not %v", i, j, want)
			}
		}
	}
	m := mixedMemory()
	for i := range m.Pages {
		perm, byteOff := mixedMemory(), mixedMemory()
		perm.Pages[i].Perm ^= 4
		byteOff.Pages[i].Data = byteOff.Pages[i].Data[:127] + "\x00"
		fewer := impl.Memory{Pages: slices.Delete(mixedMemory().Pages, i, i+1)}
		for _, other := range []impl.Memory{perm, byteOff, fewer} {
			if impl.SameMemory(m, other) || impl.SameMemory(other, m) || !impl.SameMemory(other, other) {
				t.Error("page", i, "is told to be alike")
			}
		}
	}
}

// changes has each call that answers a memory, done and refused.
var changes = map[string]func(m impl.Memory) (impl.Memory, int){
	"AddPage ahead":      func(m impl.Memory) (impl.Memory, int) { return impl.AddPage(m, 0, 3) },
	"AddPage between":    func(m impl.Memory) (impl.Memory, int) { return impl.AddPage(m, 4224, 3) },
	"AddPage behind":     func(m impl.Memory) (impl.Memory, int) { return impl.AddPage(m, lastBase, 3) },
	"AddPage clash":      func(m impl.Memory) (impl.Memory, int) { return impl.AddPage(m, 4096, 3) },
	"SetPerm":            func(m impl.Memory) (impl.Memory, int) { return impl.SetPerm(m, 4096, 15) },
	"SetPerm of no page": func(m impl.Memory) (impl.Memory, int) { return impl.SetPerm(m, 0, 15) },
	"StoreAt":            func(m impl.Memory) (impl.Memory, int) { return impl.StoreAt(m, 4096, 8, -1, false) },
	"StoreAt last":       func(m impl.Memory) (impl.Memory, int) { return impl.StoreAt(m, 8192+127, 1, -1, false) },
	"StoreAt no page":    func(m impl.Memory) (impl.Memory, int) { return impl.StoreAt(m, 0, 8, -1, false) },
	"PutBytes":           func(m impl.Memory) (impl.Memory, int) { return impl.PutBytes(m, 4100, otherText(20)) },
	"PutBytes of two":    func(m impl.Memory) (impl.Memory, int) { return impl.PutBytes(m, 8192-100, otherText(200)) },
	"PutBytes nothing":   func(m impl.Memory) (impl.Memory, int) { return impl.PutBytes(m, 0, "") },
	"PutBytes cut off":   func(m impl.Memory) (impl.Memory, int) { return impl.PutBytes(m, 8192+100, otherText(29)) },
}

func TestNoCallChangesItsMemory(t *testing.T) {
	mark := impl.Page{Base: 7, Perm: 99, Data: "mark"}
	for what, change := range changes {
		pages := append(memoryOf(3, 4096, 8192-128, 8192).Pages, mark, mark, mark)
		before := slices.Clone(pages)
		got, _ := change(impl.Memory{Pages: pages[:3]})
		if !slices.Equal(pages, before) {
			t.Error(what, "changes what it was given")
		}
		if len(got.Pages) < 3 || len(got.Pages) > 4 {
			t.Error(what, "answers", len(got.Pages), "pages")
		}
		kept := slices.Clone(got.Pages)
		for i := range pages {
			pages[i] = mark
		}
		if !slices.Equal(got.Pages, kept) {
			t.Error(what, "answers the pages that it was given")
		}
	}
}

func TestRefusedChangesAnswerTheMemoryAsItWas(t *testing.T) {
	codes := map[string]int{"AddPage clash": impl.ErrClash, "SetPerm of no page": impl.ErrPage, "StoreAt no page": impl.ErrPage, "PutBytes cut off": impl.ErrPage}
	for what, change := range changes {
		m := memoryOf(3, 4096, 8192-128, 8192)
		got, code := change(m)
		if code != codes[what] {
			t.Error(what, "answers", code)
		}
		if same := slices.Equal(got.Pages, m.Pages); same != (code != impl.OK || what == "PutBytes nothing") {
			t.Error(what, "answers the same pages:", same)
		}
	}
}
