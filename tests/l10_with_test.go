package tests

import (
	"fmt"
	"slices"
	"strings"
	"testing"

	"loop.example/g00654/impl"
)

// copiedLinked answers what was linked, with lists of its own.
func copiedLinked(l impl.Linked) impl.Linked {
	return impl.Linked{Ats: slices.Clone(l.Ats), Codes: slices.Clone(l.Codes), DataAts: slices.Clone(l.DataAts), Datas: slices.Clone(l.Datas)}
}

// relisted answers a changed copy of what was linked.
func relisted(l impl.Linked, change func(l *impl.Linked)) impl.Linked {
	l = copiedLinked(l)
	change(&l)
	return l
}

// linkedOf answers what may have been linked of an object: its units as they are, side by side.
func linkedOf(o impl.Object) impl.Linked {
	c := linkCase{nil, impl.Area{Base: 8192, Size: 4096, Top: 8192}, impl.Area{Base: 20480, Size: 4096, Top: 20480}, o}
	return c.placedByRule().linked
}

// hasAllByRule tells whether l has as many functions and data as an object, of the same lengths.
func hasAllByRule(l impl.Linked, o impl.Object) bool {
	lengths := []int{len(o.Funcs), len(o.Funcs), len(o.Datas), len(o.Datas)}
	if !slices.Equal(lengths, []int{len(l.Ats), len(l.Codes), len(l.DataAts), len(l.Datas)}) {
		return false
	}
	for n, f := range o.Funcs {
		if len(f.Code) != len(l.Codes[n]) {
			return false
		}
	}
	for n, d := range o.Datas {
		if len(d.Bytes) != len(l.Datas[n]) {
			return false
		}
	}
	return true
}

// withByRule is what TableWith must answer, by the document's words.
func withByRule(table []impl.Entry, o impl.Object, l impl.Linked, owner int) ([]impl.Entry, int) {
	if len(table) > 4096 {
		return nil, impl.ErrLong
	}
	_, fault := objectByRule(o)
	if !tableByRule(table) || fault != impl.OK || !hasAllByRule(l, o) || owner < 1 || owner > 6 {
		return nil, impl.ErrBad
	}
	list := slices.Clone(table)
	for n, f := range o.Funcs {
		if !f.Replaces {
			list = append(list, impl.Entry{Name: f.Name, Kind: 1, At: l.Ats[n], Size: len(f.Code), Frame: f.Frame, Owner: owner})
		}
	}
	for n, d := range o.Datas {
		list = append(list, impl.Entry{Name: d.Name, Kind: 2, At: l.DataAts[n], Size: len(d.Bytes), Owner: owner})
	}
	if !tableByRule(list) {
		return nil, impl.ErrClash
	}
	return list, impl.OK
}

// checkWith holds the answer of TableWith against what the document asks, and tells its code.
func checkWith(t *testing.T, what string, table []impl.Entry, o impl.Object, l impl.Linked, owner int) int {
	t.Helper()
	got, code := impl.TableWith(table, o, l, owner)
	if want, wantCode := withByRule(table, o, l, owner); !slices.Equal(got, want) || code != wantCode {
		t.Errorf("%s: TableWith = %.900s, %s, not %.900s, %s", what, fmt.Sprint(got), impl.CodeWord(code), fmt.Sprint(want), impl.CodeWord(wantCode))
	}
	return code
}

// withFails holds the answer of TableWith against a code.
func withFails(t *testing.T, what string, table []impl.Entry, o impl.Object, l impl.Linked, owner, fault int) {
	t.Helper()
	if code := checkWith(t, what, table, o, l, owner); code != fault {
		t.Errorf("%s: TableWith: %s, not %s", what, impl.CodeWord(code), impl.CodeWord(fault))
	}
}

func TestTheTableWithASystemsObject(t *testing.T) {
	c := systemCase()
	l := c.link().linked
	for owner := 1; owner <= 6; owner++ {
		got, code := impl.TableWith(c.table, c.object, l, owner)
		want := slices.Concat(systemTable(), []impl.Entry{
			{Name: "aid", Kind: 1, At: 8280, Size: 36, Frame: 16, Owner: owner},
			{Name: "help", Kind: 1, At: 8320, Size: 28, Frame: 48, Owner: owner},
			{Name: "more", Kind: 2, At: 20488, Size: 16, Owner: owner},
			{Name: "tail", Kind: 2, At: 20504, Size: 24, Owner: owner},
		})
		if code != impl.OK || !slices.Equal(got, want) || !impl.TableOK(got) {
			t.Errorf("owner %d: TableWith = %v, %d", owner, got, code)
		}
		// Linked a second time it clashes, whoever the owner is.
		withFails(t, "the same again", got, c.object, l, 7-owner, impl.ErrClash)
		if again := (linkCase{got, c.code, c.data, c.object}).link(); !again.is(linkAnswer{fault: impl.ErrClash}) {
			t.Error("the same is linked again:", again)
		}
	}
	for i, o := range rightObjects() {
		withFails(t, fmt.Sprint("right object ", i), severalEntries(3), o, linkedOf(o), 1+i%6, impl.OK)
		withFails(t, fmt.Sprint("right object ", i, ", no entries"), nil, o, linkedOf(o), 1+i%6, impl.OK)
	}
}

// A further patch is linked against the table with the one ahead.
func TestLinkingOnePatchAfterTheOther(t *testing.T) {
	c := systemCase()
	end := c.code.Top
	for owner := 1; owner <= 4; owner++ {
		own := fmt.Sprint("own", owner)
		c.object = impl.Object{Name: "p", Depth: owner - 1, Funcs: []impl.PatchFunc{
			patchOf("leaf", true, 16, "jal x1 0\njal x1 0"), patchOf(own, false, 32, "jal x1 0\naddi x5 x5 1"),
		}, Datas: []impl.PatchData{{Name: own + "d", Bytes: dataOf(24)}}}
		ahead := "main"
		if owner > 1 {
			ahead = fmt.Sprint("own", owner-1)
		}
		c.object.Relocs = []impl.Reloc{{Unit: 0, At: 2, Kind: 7, Symbol: own}, {Unit: 0, At: 3, Kind: 7, Symbol: "leaf"}, {Unit: 1, At: 2, Kind: 7, Symbol: ahead}, {Unit: 2, At: 1, Kind: 9, Symbol: ahead}}
		c.check(t, own)
		got := c.link()
		if got.fault != impl.OK || !slices.Equal(got.linked.Ats, []int{end, end + 32}) {
			t.Fatal(owner, got)
		}
		checkLies(t, c, got)
		place := got.linked.Ats[1] + 8
		address, _ := c.addressByRule(got, ahead)
		if to, code := impl.TargetOf(numberByRule(got.linked.Codes[1][8:12]), place); to != address || code != impl.OK {
			t.Errorf("%s calls %d, not %s at %d", own, to, ahead, address)
		}
		table, code := impl.TableWith(c.table, c.object, got.linked, owner)
		if n, _ := impl.FindEntry(table, own); code != impl.OK || table[n].At != end+32 || table[n].Owner != owner {
			t.Fatal(table, code)
		}
		c.table, c.code, c.data, end = table, got.code, got.data, end+64
	}
}

func TestOwnersOfWhatIsLinked(t *testing.T) {
	c := systemCase()
	l := c.link().linked
	for _, owner := range slices.Concat([]int{-1, -2, 0, 1, 2, 3, 4, 5, 6, 7, 8, 64, 1 << 32, 1<<32 + 1}, wildInts) {
		withFails(t, fmt.Sprint("owner ", owner), c.table, c.object, l, owner, codeUnless(owner >= 1 && owner <= 6, impl.ErrBad))
		// An object that brings no entry has an owner, too.
		small := impl.Object{Name: "a", Funcs: []impl.PatchFunc{replacing("leaf", 16, 5)}}
		withFails(t, fmt.Sprint("owner ", owner), c.table, small, linkedOf(small), owner, codeUnless(owner >= 1 && owner <= 6, impl.ErrBad))
	}
}

// wrongLinked has what was linked of an object with two functions and two data or more, with one thing that does not fit.
func wrongLinked(l impl.Linked) map[string]impl.Linked {
	wrong := map[string]impl.Linked{"nothing": {}, "long lists": {Ats: make([]int, 5000), Codes: make([]string, 5000), DataAts: make([]int, 5000), Datas: make([]string, 5000)}}
	add := func(what string, change func(l *impl.Linked)) { wrong[what] = relisted(l, change) }
	add("no Ats", func(l *impl.Linked) { l.Ats = nil })
	add("no Codes", func(l *impl.Linked) { l.Codes = nil })
	add("no DataAts", func(l *impl.Linked) { l.DataAts = nil })
	add("no Datas", func(l *impl.Linked) { l.Datas = nil })
	add("fewer Ats", func(l *impl.Linked) { l.Ats = l.Ats[1:] })
	add("fewer Codes", func(l *impl.Linked) { l.Codes = l.Codes[:len(l.Codes)-1] })
	add("fewer DataAts", func(l *impl.Linked) { l.DataAts = l.DataAts[1:] })
	add("fewer Datas", func(l *impl.Linked) { l.Datas = l.Datas[:len(l.Datas)-1] })
	add("more Ats", func(l *impl.Linked) { l.Ats = append(l.Ats, 4096) })
	add("more Codes", func(l *impl.Linked) { l.Codes = append(l.Codes, l.Codes[0]) })
	add("an empty code more", func(l *impl.Linked) { l.Codes = append(l.Codes, "") })
	add("more DataAts", func(l *impl.Linked) { l.DataAts = append(l.DataAts, 4096) })
	add("more Datas", func(l *impl.Linked) { l.Datas = append(l.Datas, l.Datas[0]) })
	add("a datum that is empty", func(l *impl.Linked) { l.Datas = append(l.Datas, "") })
	add("fewer functions", func(l *impl.Linked) { l.Ats, l.Codes = l.Ats[1:], l.Codes[1:] })
	add("fewer data", func(l *impl.Linked) { l.DataAts, l.Datas = l.DataAts[1:], l.Datas[1:] })
	add("more functions", func(l *impl.Linked) { l.Ats, l.Codes = append(l.Ats, 4096), append(l.Codes, l.Codes[0]) })
	add("more data", func(l *impl.Linked) { l.DataAts, l.Datas = append(l.DataAts, 4096), append(l.Datas, l.Datas[0]) })
	add("functions for data", func(l *impl.Linked) {
		l.Ats, l.Codes, l.DataAts, l.Datas = l.DataAts, l.Datas, l.Ats, l.Codes
	})
	for _, length := range []int{0, 4, 8, impl.MaxText, impl.MaxText + 1} {
		for n := range l.Codes {
			add(fmt.Sprint(length, " bytes of code ", n), func(l *impl.Linked) { l.Codes[n] = dataOf(length) })
			add(fmt.Sprint(length, " bytes more of code ", n), func(l *impl.Linked) { l.Codes[n] += "a" + dataOf(length) })
			add(fmt.Sprint("a byte less of code ", n), func(l *impl.Linked) { l.Codes[n] = l.Codes[n][1:] })
		}
		for n := range l.Datas {
			add(fmt.Sprint(length, " bytes more of data ", n), func(l *impl.Linked) { l.Datas[n] += "a" + dataOf(length) })
			add(fmt.Sprint("no data ", n), func(l *impl.Linked) { l.Datas[n] = "" })
			add(fmt.Sprint("a byte less of data ", n), func(l *impl.Linked) { l.Datas[n] = l.Datas[n][1:] })
		}
	}
	return wrong
}

func TestLinkedThatDoesNotFit(t *testing.T) {
	c := systemCase()
	for what, l := range wrongLinked(c.link().linked) {
		withFails(t, what, c.table, c.object, l, 1, impl.ErrBad)
		// Also of a table that would clash, and of a list of entries that is too long.
		withFails(t, what, []impl.Entry{{Name: "aid", Kind: 2, Size: 8}}, c.object, l, 1, impl.ErrBad)
		withFails(t, what, make([]impl.Entry, impl.MaxList+1), c.object, l, 1, impl.ErrLong)
	}
	full := fullObject()
	for what, l := range wrongLinked(linkedOf(full)) {
		withFails(t, what, nil, full, l, 6, impl.ErrBad)
	}
	// Just the lengths count, not the bytes; of an empty object's lists nil is as good as empty ones.
	small := smallObject()
	other := impl.Linked{Ats: []int{4}, Codes: []string{strings.Repeat("\x00", 20)}, DataAts: []int{}, Datas: []string{}}
	withFails(t, "other bytes", nil, small, other, 1, impl.OK)
	other.DataAts, other.Datas = nil, nil
	withFails(t, "other bytes", nil, small, other, 1, impl.OK)
}

func TestTheTableWithWrongArguments(t *testing.T) {
	c := systemCase()
	l := c.link().linked
	for what, table := range wrongTables() {
		withFails(t, what, table, c.object, l, 1, impl.ErrBad)
		withFails(t, what, table, c.object, l, 0, impl.ErrBad)
	}
	for what, o := range wrongObjects() {
		withFails(t, what, c.table, o, l, 1, impl.ErrBad)
		withFails(t, what, make([]impl.Entry, impl.MaxList+1), o, l, 1, impl.ErrLong)
		if len(o.Funcs) < 300 {
			withFails(t, what, nil, o, linkedOf(o), 1, impl.ErrBad)
		}
	}
	for _, n := range []int{impl.MaxList + 1, impl.MaxText} {
		withFails(t, "a table that is too long", severalEntries(n), c.object, l, 1, impl.ErrLong)
		withFails(t, "a table that is too long", make([]impl.Entry, n), impl.Object{}, impl.Linked{}, -1, impl.ErrLong)
	}
	withFails(t, "4096 entries", severalEntries(impl.MaxList), c.object, l, 1, impl.ErrBad)
}

func TestTablesThatWouldBeTooLong(t *testing.T) {
	full := fullObject()
	for n := range tableLimit + 1 {
		// Two of its functions replace, two are new, and there are four data.
		withFails(t, fmt.Sprint(n, " entries"), severalEntries(n), full, linkedOf(full), 3, codeUnless(n+6 <= tableLimit, impl.ErrClash))
		small := smallObject()
		withFails(t, fmt.Sprint(n, " entries"), severalEntries(n), small, linkedOf(small), 3, impl.OK)
		small.Funcs[0].Replaces = false
		withFails(t, fmt.Sprint(n, " entries"), severalEntries(n), small, linkedOf(small), 3, codeUnless(n < tableLimit, impl.ErrClash))
	}
}

func TestNamesThatClashInTheTable(t *testing.T) {
	full := without(fullObject(), "r")
	l := linkedOf(full)
	for unit := range 8 {
		name := nameAt(full, unit)
		brings := unit >= 4 || !full.Funcs[unit].Replaces
		for _, e := range []impl.Entry{{Name: name, Kind: 2, Size: 8}, {Name: name, Kind: 1, Size: 20, Frame: 16, Owner: 6}} {
			withFails(t, "a name twice", []impl.Entry{e}, full, l, 1, codeUnless(!brings, impl.ErrClash))
			withFails(t, "a name twice", append(severalEntries(30), e), full, l, 1, codeUnless(!brings, impl.ErrClash))
		}
	}
}

func TestAddressesThatClashInTheTable(t *testing.T) {
	full := without(fullObject(), "r")
	for _, at := range slices.Concat([]int{0, 4, 4096, 1048568, lastPlace}, wrongPlaces, greatNumbers, wildInts) {
		for n := range 4 {
			// Where a function lies that replaces one, the table does not tell.
			l := relisted(linkedOf(full), func(l *impl.Linked) { l.Ats[n] = at })
			withFails(t, fmt.Sprint("function ", n, " at ", at), nil, full, l, 1, codeUnless(isPlace(at) || full.Funcs[n].Replaces, impl.ErrClash))
			l = relisted(linkedOf(full), func(l *impl.Linked) { l.DataAts[n] = at })
			withFails(t, fmt.Sprint("data ", n, " at ", at), nil, full, l, 1, codeUnless(isPlace(at), impl.ErrClash))
		}
	}
}

// linkedChanges answers what differs in one place from what was linked.
func linkedChanges(l impl.Linked) map[string]impl.Linked {
	out := map[string]impl.Linked{}
	add := func(what string, change func(l *impl.Linked)) { out[what] = relisted(l, change) }
	for n := range l.Ats {
		add(fmt.Sprint("Ats ", n), func(l *impl.Linked) { l.Ats[n]++ })
		add(fmt.Sprint("the first byte of code ", n), func(l *impl.Linked) { l.Codes[n] = withByte(l.Codes[n], 0, int(l.Codes[n][0])^1) })
		last := len(l.Codes[n]) - 1
		add(fmt.Sprint("the last byte of code ", n), func(l *impl.Linked) { l.Codes[n] = withByte(l.Codes[n], last, int(l.Codes[n][last])^128) })
	}
	for n := range l.DataAts {
		add(fmt.Sprint("DataAts ", n), func(l *impl.Linked) { l.DataAts[n] += 8 })
		add(fmt.Sprint("a byte of data ", n), func(l *impl.Linked) { l.Datas[n] = withByte(l.Datas[n], 7, int(l.Datas[n][7])^1) })
	}
	add("Ats turned", func(l *impl.Linked) { slices.Reverse(l.Ats) })
	add("Codes turned", func(l *impl.Linked) { slices.Reverse(l.Codes) })
	return out
}

func TestSameLinked(t *testing.T) {
	c := systemCase()
	l := c.link().linked
	others := wrongLinked(l)
	for what, other := range linkedChanges(l) {
		others[what] = other
	}
	for what, other := range others {
		if impl.SameLinked(l, other) || impl.SameLinked(other, l) {
			t.Errorf("%s: SameLinked", what)
		}
		if !impl.SameLinked(other, copiedLinked(other)) {
			t.Errorf("%s: not the same as a copy", what)
		}
	}
	empty := impl.Linked{Ats: []int{}, Codes: []string{}, DataAts: []int{}, Datas: []string{}}
	if !impl.SameLinked(empty, impl.Linked{}) || !impl.SameLinked(impl.Linked{}, empty) || !impl.SameLinked(empty, empty) || !impl.SameLinked(l, c.link().linked) {
		t.Error("alike ones are not the same")
	}
	// Each of the four lists by itself, of one element that is zero.
	zero := []impl.Linked{{}, {Ats: []int{0}}, {Codes: []string{""}}, {DataAts: []int{0}}, {Datas: []string{""}}}
	for i, a := range zero {
		for j, b := range zero {
			if impl.SameLinked(a, b) != (i == j) {
				t.Errorf("%v and %v: SameLinked = %v", a, b, i != j)
			}
		}
	}
	long := impl.Linked{Ats: make([]int, 9000), Datas: []string{strings.Repeat("a", 2*impl.MaxText)}}
	other := copiedLinked(long)
	if !impl.SameLinked(long, other) {
		t.Error("long lists are not the same")
	}
	if other.Ats[8999] = 1; impl.SameLinked(long, other) {
		t.Error("long lists are the same")
	}
}

// lentList answers the list with something behind its end, and a call that tells whether all of it stands.
func lentList[E comparable](list []E, behind E) ([]E, func() bool) {
	whole := slices.Concat(list, slices.Repeat([]E{behind}, 9))
	given := slices.Clone(whole)
	return whole[:len(list)], func() bool { return slices.Equal(whole, given) }
}

// lentLinked does likewise with four lists.
func lentLinked(l impl.Linked) (impl.Linked, func() bool) {
	ats, atsStand := lentList(l.Ats, -7)
	codes, codesStand := lentList(l.Codes, "behind")
	dataAts, dataAtsStand := lentList(l.DataAts, -7)
	datas, datasStand := lentList(l.Datas, "behind")
	return impl.Linked{Ats: ats, Codes: codes, DataAts: dataAts, Datas: datas}, func() bool {
		return atsStand() && codesStand() && dataAtsStand() && datasStand()
	}
}

// linkAnswers tells all that the calls of the layer answer of a case, and of what was linked.
func linkAnswers(c linkCase, l impl.Linked) string {
	table, code := impl.TableWith(c.table, c.object, l, 2)
	n, found := impl.FindEntry(c.table, "leaf")
	at, there := impl.EntryAt(c.table, 4120)
	return fmt.Sprint(c.link(), table, code, n, found, at, there, impl.TableOK(c.table), impl.SameLinked(l, l), impl.SameLinked(l, c.link().linked))
}

// No call of the layer turns what it was given, nor what lies behind it.
func TestNoLinkCallChangesWhatItWasGiven(t *testing.T) {
	cases := []linkCase{systemCase()}
	d := dice(24)
	for range 300 {
		cases = append(cases, anyLinkCase(&d))
	}
	for _, s := range slices.Concat(badSpoilers(), nameSpoilers(), roomSpoilers(), relocFaults(), builtSpoilers()) {
		cases = append(cases, spoiledBy(s))
	}
	for _, c := range cases {
		l, linkedStands := lentLinked(linkedOf(c.object))
		object, objectStands := lent(c.object)
		table, tableStands := lentList(c.table, impl.Entry{Name: "behind"})
		given := linkCase{table, c.code, c.data, object}
		first := linkAnswers(given, l)
		if !linkedStands() || !objectStands() || !tableStands() {
			t.Errorf("a call changes what it was given: %s", objectString(c.object))
		}
		if linkAnswers(given, l) != first {
			t.Errorf("another answer at the second time of %s", objectString(c.object))
		}
	}
}

// What is written into lists that were answered, or behind their ends, is seen nowhere else.
func TestWhatIsLinkedIsNewMemory(t *testing.T) {
	c := systemCase()
	object, objectStands := lent(c.object)
	table, tableStands := lentList(c.table, impl.Entry{Name: "behind"})
	given := linkCase{table, c.code, c.data, object}
	want := systemCase().link()
	for range 2 {
		got := given.link()
		if !got.is(want) {
			t.Fatal("another answer:", got)
		}
		kept, stands := lentLinked(got.linked)
		with, code := impl.TableWith(given.table, given.object, kept, 1)
		if code != impl.OK {
			t.Fatal(code)
		}
		for n := range with {
			with[n] = impl.Entry{Name: "written"}
		}
		_ = append(with[:3], impl.Entry{Name: "behind"})
		if !tableStands() || !objectStands() || !stands() {
			t.Error("a table shares its list with an argument")
		}
		l := got.linked
		_, _, _, _ = append(l.Ats, 7), append(l.Codes, "behind"), append(l.DataAts, 8), append(l.Datas, "behind")
		if !sameLinked(l, want.linked) {
			t.Error("two lists of an answer share memory:", l)
		}
		for n := range l.Ats {
			l.Ats[n], l.Codes[n] = -1, "written"
		}
		if !slices.Equal(l.DataAts, want.linked.DataAts) || !slices.Equal(l.Datas, want.linked.Datas) || !tableStands() || !objectStands() {
			t.Error("a list of an answer shares memory:", l)
		}
	}
}
