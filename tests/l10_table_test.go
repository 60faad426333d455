package tests

import (
	"fmt"
	"slices"
	"strings"
	"testing"

	"loop.example/g00654/impl"
)

const (
	tableLimit = 64
	sizeLimit  = 1024
)

// mixedTable has functions and data with numbers at their bounds; three of them begin at 4096, two functions at 8192.
func mixedTable() []impl.Entry {
	return []impl.Entry{
		{Name: "count", Kind: 2, At: 4096, Size: 8},
		{Name: "main", Kind: 1, At: 4096, Size: 24, Frame: 16},
		{Name: "leaf", Kind: 1, At: 4120, Size: 24, Frame: 128, Owner: 1},
		{Name: "a", Kind: 2, At: 1048572, Size: 1, Owner: 6},
		{Name: longestName, Kind: 1, At: 1048572, Size: sizeLimit, Frame: 64, Owner: 6},
		{Name: "_", Kind: 2, At: 0, Size: sizeLimit, Owner: 3},
		{Name: "Main", Kind: 1, At: 0, Size: 1, Frame: 32},
		{Name: "new", Kind: 1, At: 8192, Size: 20, Frame: 48, Owner: 2},
		{Name: "newer", Kind: 1, At: 8192, Size: 256, Frame: 48, Owner: 2},
		{Name: "news", Kind: 1, At: 4096, Size: 20, Frame: 48, Owner: 2},
		{Name: "more", Kind: 2, At: 20484, Size: 15, Owner: 2},
	}
}

// severalEntries answers a table of n entries.
func severalEntries(n int) []impl.Entry {
	var table []impl.Entry
	for i := range n {
		e := impl.Entry{Name: fmt.Sprint("e", i), Kind: 1 + i%2, At: 4 * i, Size: 1 + i%sizeLimit, Owner: i % 7}
		if e.Kind == 1 {
			e.Frame = allFrames[i%8]
		}
		table = append(table, e)
	}
	return table
}

func rightTables() [][]impl.Entry {
	mixed := mixedTable()
	turned := slices.Clone(mixed)
	slices.Reverse(turned)
	return [][]impl.Entry{nil, {}, mixed, turned, mixed[:1], mixed[1:2], severalEntries(tableLimit - 1), severalEntries(tableLimit), severalEntries(2)}
}

// withEntry answers mixedTable with another entry n.
func withEntry(n int, change func(e *impl.Entry)) []impl.Entry {
	table := mixedTable()
	change(&table[n])
	return table
}

// wrongTables has a table of each fault.
func wrongTables() map[string][]impl.Entry {
	wrong := map[string][]impl.Entry{
		"65 entries":      severalEntries(tableLimit + 1),
		"4096 entries":    severalEntries(impl.MaxList),
		"empty entries":   make([]impl.Entry, 3),
		"an empty entry":  make([]impl.Entry, 1),
		"the same twice":  {mixedTable()[1], mixedTable()[1]},
		"64 and one more": append(severalEntries(tableLimit), mixedTable()[0]),
	}
	for n := range mixedTable() {
		add := func(what string, change func(e *impl.Entry)) {
			wrong[fmt.Sprint(what, " of entry ", n)] = withEntry(n, change)
		}
		add("no name", func(e *impl.Entry) { e.Name = "9" })
		add("a name twice", func(e *impl.Entry) { e.Name = mixedTable()[(n+1)%11].Name })
		add("no kind", func(e *impl.Entry) { e.Kind = 3 })
		add("another kind", func(e *impl.Entry) { e.Kind = 3 - e.Kind })
		add("a place", func(e *impl.Entry) { e.At = 4098 })
		add("no size", func(e *impl.Entry) { e.Size = 0 })
		add("a frame", func(e *impl.Entry) { e.Frame = 8 })
		add("an owner", func(e *impl.Entry) { e.Owner = 7 })
	}
	return wrong
}

// entryByRule tells whether an entry may stand in a table, by the document's words.
func entryByRule(e impl.Entry) bool {
	right := impl.NameOK(e.Name) && isPlace(e.At) && e.Size >= 1 && e.Size <= 1024 && e.Owner >= 0 && e.Owner <= 6
	if e.Kind == 1 {
		return right && slices.Contains(allFrames, e.Frame)
	}
	return right && e.Kind == 2 && e.Frame == 0
}

// tableByRule tells whether it is a table, by the document's words.
func tableByRule(table []impl.Entry) bool {
	for n, e := range table {
		same := func(ahead impl.Entry) bool { return ahead.Name == e.Name }
		if !entryByRule(e) || slices.ContainsFunc(table[:n], same) {
			return false
		}
	}
	return len(table) <= 64
}

func checkTable(t *testing.T, what string, table []impl.Entry, right bool) {
	t.Helper()
	if impl.TableOK(table) != right || tableByRule(table) != right {
		t.Errorf("%s: TableOK = %v of %d entries %.900s", what, impl.TableOK(table), len(table), fmt.Sprint(table[:min(len(table), 70)]))
	}
}

func TestTablesThatAreKnown(t *testing.T) {
	if impl.MaxTable != tableLimit {
		t.Error("MaxTable is", impl.MaxTable)
	}
	for i, table := range rightTables() {
		checkTable(t, fmt.Sprint("right table ", i), table, true)
	}
	for what, table := range wrongTables() {
		checkTable(t, what, table, false)
	}
	for n := range 80 {
		checkTable(t, fmt.Sprint(n, " entries"), severalEntries(n), n <= tableLimit)
	}
	for _, n := range []int{impl.MaxList, impl.MaxList + 1, impl.MaxText} {
		checkTable(t, fmt.Sprint(n, " entries"), make([]impl.Entry, n), false)
	}
}

func TestNamesOfEntries(t *testing.T) {
	mixed := mixedTable()
	for n, own := range mixed {
		for _, name := range noNames {
			checkTable(t, "no name", withEntry(n, func(e *impl.Entry) { e.Name = name }), false)
		}
		for other, e := range mixed {
			checkTable(t, "another's name", withEntry(n, func(changed *impl.Entry) { changed.Name = e.Name }), other == n)
		}
		for _, name := range []string{"zz9", "Fix", "Q" + own.Name[1:], own.Name[:1] + "_9", "m"} {
			checkTable(t, "another name", withEntry(n, func(e *impl.Entry) { e.Name = name }), true)
		}
	}
	// The first of a full table and the last one.
	twice := severalEntries(tableLimit)
	twice[tableLimit-1].Name = twice[0].Name
	checkTable(t, "the first name again", twice, false)
}

func TestNumbersOfEntries(t *testing.T) {
	numbers := slices.Concat(greatNumbers, areaNumbers, wrongFrames, wrongPlaces)
	for v := -10; v <= 140; v++ {
		numbers = append(numbers, v)
	}
	for v := 1015; v <= 1035; v++ {
		numbers = append(numbers, v)
	}
	for n, own := range mixedTable() {
		for _, v := range numbers {
			function := own.Kind == 1
			checkTable(t, fmt.Sprint("kind ", v), withEntry(n, func(e *impl.Entry) { e.Kind = v }), v == own.Kind)
			checkTable(t, fmt.Sprint("at ", v), withEntry(n, func(e *impl.Entry) { e.At = v }), isPlace(v))
			checkTable(t, fmt.Sprint("size ", v), withEntry(n, func(e *impl.Entry) { e.Size = v }), v >= 1 && v <= 1024)
			checkTable(t, fmt.Sprint("frame ", v), withEntry(n, func(e *impl.Entry) { e.Frame = v }), function && slices.Contains(allFrames, v) || !function && v == 0)
			checkTable(t, fmt.Sprint("owner ", v), withEntry(n, func(e *impl.Entry) { e.Owner = v }), v >= 0 && v <= 6)
		}
		// A function without a frame, data with one.
		for _, frame := range append([]int{0}, allFrames...) {
			for kind := -1; kind <= 4; kind++ {
				right := kind == 1 && frame > 0 || kind == 2 && frame == 0
				checkTable(t, fmt.Sprint("kind ", kind, " with the frame ", frame), withEntry(n, func(e *impl.Entry) { e.Kind, e.Frame = kind, frame }), right)
			}
		}
	}
}

// tableOfImage is what ImageTable must answer.
func tableOfImage(im impl.Image) []impl.Entry {
	var table []impl.Entry
	for _, y := range im.Symbols {
		at := 4096 + y.At
		if y.Kind == 2 {
			at = 16384 + y.At
		}
		table = append(table, impl.Entry{Name: y.Name, Kind: y.Kind, At: at, Size: y.Size, Frame: y.Frame})
	}
	return table
}

func TestTablesOfImages(t *testing.T) {
	for i, im := range rightImages() {
		table, code := impl.ImageTable(im)
		if code != impl.OK || !slices.Equal(table, tableOfImage(im)) || !impl.TableOK(table) {
			t.Errorf("image %d: ImageTable = %v, %d", i, table, code)
		}
		for n, y := range im.Symbols {
			address, _ := impl.AddressOf(im, n)
			if found, code := impl.FindEntry(table, y.Name); found != n || code != impl.OK || table[n].At != address {
				t.Errorf("image %d: %s is entry %d, %d, at %d", i, y.Name, found, code, table[n].At)
			}
		}
		// What is written into a table is not seen in the next one.
		for n := range table {
			table[n] = impl.Entry{Name: "written"}
		}
		if again, _ := impl.ImageTable(im); !slices.Equal(again, tableOfImage(im)) {
			t.Errorf("image %d: ImageTable = %v at the second time", i, again)
		}
	}
	d := dice(21)
	for range 500 {
		im := anyRightImage(&d)
		if table, code := impl.ImageTable(im); code != impl.OK || !slices.Equal(table, tableOfImage(im)) {
			t.Errorf("ImageTable = %v, %d", table, code)
		}
	}
	for what, im := range wrongImages() {
		if table, code := impl.ImageTable(im); len(table) != 0 || code != impl.ErrBad {
			t.Errorf("%s: ImageTable = %v, %d", what, table, code)
		}
	}
}

func checkFind(t *testing.T, what string, table []impl.Entry, name string, want, wantCode int) {
	t.Helper()
	if n, code := impl.FindEntry(table, name); n != want || code != wantCode {
		t.Errorf("%s: FindEntry of %.30q = %d, %s, not %d, %s", what, name, n, impl.CodeWord(code), want, impl.CodeWord(wantCode))
	}
}

func checkEntryAt(t *testing.T, what string, table []impl.Entry, address, want, wantCode int) {
	t.Helper()
	if n, code := impl.EntryAt(table, address); n != want || code != wantCode {
		t.Errorf("%s: EntryAt %d = %d, %s, not %d, %s", what, address, n, impl.CodeWord(code), want, impl.CodeWord(wantCode))
	}
}

func TestEachEntryIsFound(t *testing.T) {
	for i, table := range rightTables() {
		what := fmt.Sprint("table ", i)
		for n, e := range table {
			checkFind(t, what, table, e.Name, n, impl.OK)
			checkFind(t, what, table, e.Name+" ", 0, impl.ErrSymbol)
			checkFind(t, what, table, e.Name+"x", 0, impl.ErrSymbol)
			checkFind(t, what, table, e.Name[1:], 0, impl.ErrSymbol)
		}
		for _, name := range slices.Concat(noNames, wildTexts, []string{"gone", "MAIN", "mai", "main\x00"}) {
			code := impl.ErrSymbol
			if len(name) > impl.MaxText {
				code = impl.ErrLong
			}
			if !slices.ContainsFunc(table, func(e impl.Entry) bool { return e.Name == name }) {
				checkFind(t, what, table, name, 0, code)
			}
		}
	}
}

// atByRule is what EntryAt must answer of a table that is right.
func atByRule(table []impl.Entry, address int) (int, int) {
	for n, e := range table {
		if e.Kind == 1 && e.At == address {
			return n, impl.OK
		}
	}
	return 0, impl.ErrSymbol
}

func TestFunctionsAreFoundByTheirAddress(t *testing.T) {
	for i, table := range rightTables() {
		var addresses []int
		for _, e := range table {
			for off := -5; off <= 28; off++ {
				addresses = append(addresses, e.At+off, e.At+off+1<<32)
			}
		}
		for _, address := range slices.Concat(addresses, wildInts, wrongPlaces, greatNumbers) {
			want, code := atByRule(table, address)
			checkEntryAt(t, fmt.Sprint("table ", i), table, address, want, code)
		}
	}
	mixed := mixedTable()
	for _, v := range []struct{ address, n, code int }{
		{4096, 1, impl.OK}, {4120, 2, impl.OK}, {8192, 7, impl.OK}, {1048572, 4, impl.OK}, {0, 6, impl.OK},
		{4100, 0, impl.ErrSymbol}, {4119, 0, impl.ErrSymbol}, {4124, 0, impl.ErrSymbol}, {20484, 0, impl.ErrSymbol}, {-4, 0, impl.ErrSymbol}, {1048576, 0, impl.ErrSymbol}, {leastInt, 0, impl.ErrSymbol},
	} {
		checkEntryAt(t, "the mixed table", mixed, v.address, v.n, v.code)
	}
	// Each order of two functions with the same At: the first one.
	same := []impl.Entry{mixed[8], mixed[0], mixed[7]}
	checkEntryAt(t, "two of the same At", same, 8192, 0, impl.OK)
	slices.Reverse(same)
	checkEntryAt(t, "two of the same At, turned", same, 8192, 0, impl.OK)
}

func TestLookUpsInWrongTables(t *testing.T) {
	for what, table := range wrongTables() {
		for _, e := range table {
			checkFind(t, what, table, e.Name, 0, impl.ErrBad)
			checkEntryAt(t, what, table, e.At, 0, impl.ErrBad)
		}
		checkFind(t, what, table, "gone", 0, impl.ErrBad)
		checkFind(t, what, table, strings.Repeat("a", impl.MaxText), 0, impl.ErrBad)
		checkFind(t, what, table, strings.Repeat("a", impl.MaxText+1), 0, impl.ErrLong)
		checkEntryAt(t, what, table, 4, 0, impl.ErrBad)
	}
	for _, n := range []int{impl.MaxList + 1, impl.MaxList + 2, impl.MaxText + 1} {
		for _, table := range [][]impl.Entry{make([]impl.Entry, n), severalEntries(n)} {
			checkFind(t, "a table that is too long", table, "e0", 0, impl.ErrLong)
			checkFind(t, "a table that is too long", table, strings.Repeat("a", impl.MaxText+1), 0, impl.ErrLong)
			checkEntryAt(t, "a table that is too long", table, 0, 0, impl.ErrLong)
		}
	}
	checkFind(t, "no entries", nil, "main", 0, impl.ErrSymbol)
	checkEntryAt(t, "no entries", []impl.Entry{}, 4096, 0, impl.ErrSymbol)
}

// anyTable answers a table that is right.
func anyTable(d *dice) []impl.Entry {
	var table []impl.Entry
	for i := range d.below(tableLimit + 1) {
		e := impl.Entry{Name: fmt.Sprint("t", i), Kind: 1 + d.below(2), At: 4 * d.below(30), Size: 1 + d.below(sizeLimit), Owner: d.below(7)}
		if e.Kind == 1 {
			e.Frame = allFrames[d.below(8)]
		}
		table = append(table, e)
	}
	return table
}

// spoilEntry changes something of an entry.
func spoilEntry(d *dice, e *impl.Entry) {
	switch v := d.below(9) - 1; d.below(6) {
	case 0:
		e.Name = []string{"", "9", "t0", "t1", "new", longestName + "a"}[d.below(6)]
	case 1:
		e.Kind = v
	case 2:
		e.At = []int{v, 1048568 + v, -4, greatNumbers[d.below(len(greatNumbers))]}[d.below(4)]
	case 3:
		e.Size = []int{v, 1020 + v, greatNumbers[d.below(len(greatNumbers))]}[d.below(3)]
	case 4:
		e.Frame = 8 * v
	case 5:
		e.Owner = v
	}
}

func TestAnyTableByTheDocumentsWords(t *testing.T) {
	d := dice(22)
	right := 0
	for range 4000 {
		table := anyTable(&d)
		for range d.below(3) {
			if len(table) > 0 {
				spoilEntry(&d, &table[d.below(len(table))])
			}
		}
		ok := tableByRule(table)
		checkTable(t, "any table", table, ok)
		right += oneIf(ok)
		for range 5 {
			address, want, code := 4*d.below(30), 0, impl.ErrBad
			if ok {
				want, code = atByRule(table, address)
			}
			checkEntryAt(t, "any table", table, address, want, code)
		}
	}
	if right < 1000 || right > 3500 {
		t.Error(right, "tables of 4000 are right")
	}
}
