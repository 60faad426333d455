package tests

import (
	"fmt"
	"slices"
	"strings"
	"testing"

	"loop.example/g00654/impl"
)

// linkCase is what LinkObject is asked of.
type linkCase struct {
	table  []impl.Entry
	code   impl.Area
	data   impl.Area
	object impl.Object
}

// linkAnswer is what it answers.
type linkAnswer struct {
	linked impl.Linked
	code   impl.Area
	data   impl.Area
	fault  int
}

func (c linkCase) link() linkAnswer {
	l, code, data, fault := impl.LinkObject(c.table, c.code, c.data, c.object)
	return linkAnswer{l, code, data, fault}
}

func sameLinked(a, b impl.Linked) bool {
	return slices.Equal(a.Ats, b.Ats) && slices.Equal(a.Codes, b.Codes) && slices.Equal(a.DataAts, b.DataAts) && slices.Equal(a.Datas, b.Datas)
}

func (a linkAnswer) is(b linkAnswer) bool {
	return sameLinked(a.linked, b.linked) && a.code == b.code && a.data == b.data && a.fault == b.fault
}

func (a linkAnswer) String() string {
	out := fmt.Sprintf("%s, %v, %v, at %v and %v", impl.CodeWord(a.fault), a.code, a.data, a.linked.Ats, a.linked.DataAts)
	for _, text := range slices.Concat(a.linked.Codes, a.linked.Datas) {
		out += fmt.Sprintf(", %x", text)
	}
	return out
}

// systemTable has what a system has loaded: functions and data that the object of systemCase names, and such as it does not.
func systemTable() []impl.Entry {
	table := []impl.Entry{
		{Name: "main", Kind: 1, At: 4096, Size: 24, Frame: 16},
		{Name: "count", Kind: 2, At: 16384, Size: 8},
		{Name: "leaf", Kind: 1, At: 4120, Size: 24, Frame: 16},
		{Name: "far", Kind: 1, At: 1048572, Size: 4, Frame: 128, Owner: 2},
		{Name: "edge", Kind: 2, At: 18432, Size: 8, Owner: 1},
	}
	for i := range 8 {
		table = append(table, impl.Entry{Name: fmt.Sprint("fn", i), Kind: 1, At: 4144 + 20*i, Size: 20, Frame: 32}, impl.Entry{Name: fmt.Sprint("da", i), Kind: 2, At: 16400 + 8*i, Size: 8})
	}
	return table
}

// patchOf answers a function of a patch.
func patchOf(name string, replaces bool, frame int, body string) impl.PatchFunc {
	return impl.PatchFunc{Name: name, Replaces: replaces, Frame: frame, Code: wordsOf(functionOf(frame, listed(body)...).list)}
}

// systemObject has a relocation of each kind; units 0 to 3 are functions, units 4 and 5 data.
func systemObject() impl.Object {
	return impl.Object{
		Name: "fix",
		Funcs: []impl.PatchFunc{
			patchOf("leaf", true, 32, "lui x5 0\naddi x5 x5 77\nlui x6 4096\nsd x5 x6 -5\nauipc x7 0\nld x7 x7 0\nauipc x8 0\nsb x7 x8 0\njal x1 0\njal x1 4\njal x1 0\njal x1 0"),
			patchOf("aid", false, 16, "addi x5 x5 1\nbne x5 x6 0\njal x1 0\njal x0 0"),
			patchOf("help", false, 48, "addi x5 x5 1\njal x1 0"),
			patchOf("main", true, 16, "jal x1 0"),
		},
		Datas: []impl.PatchData{{Name: "more", Bytes: "12345678abcdefgh"}, {Name: "tail", Bytes: "ABCDEFGHIJKLMNOPQRSTUVWX"}},
		Relocs: []impl.Reloc{
			{Unit: 0, At: 2, Kind: 1, Symbol: "more", Addend: 8}, {Unit: 0, At: 3, Kind: 2, Symbol: "more", Addend: 8}, {Unit: 0, At: 4, Kind: 1, Symbol: "edge"}, {Unit: 0, At: 5, Kind: 3, Symbol: "edge"},
			{Unit: 0, At: 6, Kind: 4, Symbol: "count"}, {Unit: 0, At: 7, Kind: 5, Symbol: "count"}, {Unit: 0, At: 8, Kind: 4, Symbol: "tail", Addend: 3}, {Unit: 0, At: 9, Kind: 6, Symbol: "tail", Addend: 3},
			{Unit: 0, At: 10, Kind: 7, Symbol: "main"}, {Unit: 0, At: 11, Kind: 7, Symbol: "aid"}, {Unit: 0, At: 12, Kind: 7, Symbol: "leaf"}, {Unit: 0, At: 13, Kind: 7, Symbol: "far"},
			{Unit: 1, At: 3, Kind: 8, Symbol: "aid", Addend: 8}, {Unit: 1, At: 4, Kind: 7, Symbol: "aid"}, {Unit: 1, At: 5, Kind: 7, Symbol: "aid", Addend: 24},
			{Unit: 2, At: 3, Kind: 7, Symbol: "aid"}, {Unit: 3, At: 2, Kind: 7, Symbol: "help"},
			{Unit: 4, At: 0, Kind: 9, Symbol: "aid"}, {Unit: 4, At: 1, Kind: 9, Symbol: "leaf", Addend: -4121},
			{Unit: 5, At: 0, Kind: 9, Symbol: "main", Addend: leastAddend}, {Unit: 5, At: 2, Kind: 9, Symbol: "tail", Addend: greatestAddend},
		},
	}
}

func systemCase() linkCase {
	return linkCase{systemTable(), impl.Area{Base: 8192, Size: 1024, Top: 8208}, impl.Area{Base: 20480, Size: 256, Top: 20488}, systemObject()}
}

// with answers the case with another object.
func (c linkCase) with(change func(o *impl.Object)) linkCase {
	c.object = changed(c.object, change)
	return c
}

// namesByRule is the code of the object's names, by the document's words.
func (c linkCase) namesByRule() int {
	kinds := map[string]int{}
	for _, e := range c.table {
		kinds[e.Name] = e.Kind
	}
	for _, f := range c.object.Funcs {
		switch {
		case f.Replaces && kinds[f.Name] == 0:
			return impl.ErrSymbol
		case f.Replaces && kinds[f.Name] != 1:
			return impl.ErrKind
		case !f.Replaces && kinds[f.Name] != 0:
			return impl.ErrClash
		}
	}
	for _, d := range c.object.Datas {
		if kinds[d.Name] != 0 {
			return impl.ErrClash
		}
	}
	return impl.OK
}

// placedByRule is the answer when all is placed, and nothing relocated.
func (c linkCase) placedByRule() linkAnswer {
	out := linkAnswer{code: c.code, data: c.data}
	for _, f := range c.object.Funcs {
		next, at, fault := placeByRule(out.code, len(f.Code))
		if fault != impl.OK {
			return linkAnswer{fault: fault}
		}
		out.code, out.linked.Ats, out.linked.Codes = next, append(out.linked.Ats, at), append(out.linked.Codes, f.Code)
	}
	for _, d := range c.object.Datas {
		next, at, fault := placeByRule(out.data, len(d.Bytes))
		if fault != impl.OK {
			return linkAnswer{fault: fault}
		}
		out.data, out.linked.DataAts, out.linked.Datas = next, append(out.linked.DataAts, at), append(out.linked.Datas, d.Bytes)
	}
	return out
}

// addressByRule answers the address of a relocation's symbol, or that there is none.
func (c linkCase) addressByRule(out linkAnswer, name string) (int, bool) {
	for n, f := range c.object.Funcs {
		if !f.Replaces && f.Name == name {
			return out.linked.Ats[n], true
		}
	}
	for n, d := range c.object.Datas {
		if d.Name == name {
			return out.linked.DataAts[n], true
		}
	}
	for _, e := range c.table {
		if e.Name == name {
			return e.At, true
		}
	}
	return 0, false
}

// overlaid answers the text with other bytes from a place on.
func overlaid(text string, at int, bytes string) string {
	return text[:at] + bytes + text[at+len(bytes):]
}

// relocateByRule carries out the relocations of an answer, and tells their code.
func (c linkCase) relocateByRule(out *linkAnswer) int {
	for _, r := range c.object.Relocs {
		address, there := c.addressByRule(*out, r.Symbol)
		if !there {
			return impl.ErrSymbol
		}
		if n := r.Unit - len(c.object.Funcs); n >= 0 {
			out.linked.Datas[n] = overlaid(out.linked.Datas[n], 8*r.At, littleByBits(address+r.Addend, 8))
			continue
		}
		code := out.linked.Codes[r.Unit]
		word, fault := applyByRule(numberByRule(code[4*r.At:4*r.At+4]), r.Kind, address+r.Addend, out.linked.Ats[r.Unit]+4*r.At)
		if fault != impl.OK {
			return fault
		}
		out.linked.Codes[r.Unit] = overlaid(code, 4*r.At, littleByBits(word, 4))
	}
	return impl.OK
}

// instrsByRule answers the instructions of a run of words; a word that is none is one of noInstr.
func instrsByRule(code string) []impl.Instr {
	var list []impl.Instr
	for at := 0; at < len(code); at += 4 {
		word := numberByRule(code[at : at+4])
		x := instrOfWord(word)
		if x.Op == 0 {
			x = noInstr(word)
		}
		list = append(list, x)
	}
	return list
}

// builtByRule is the code of the functions where they were placed.
func (c linkCase) builtByRule(out linkAnswer) int {
	var calls []int
	for n, f := range c.object.Funcs {
		if !f.Replaces {
			calls = append(calls, out.linked.Ats[n])
		}
	}
	for _, e := range c.table {
		if e.Kind == 1 {
			calls = append(calls, e.At)
		}
	}
	for n, f := range c.object.Funcs {
		b := built{instrsByRule(out.linked.Codes[n]), out.linked.Ats[n], f.Frame, calls}
		if _, fault := b.byRule(); fault != impl.OK {
			return fault
		}
	}
	return impl.OK
}

// byRule is what LinkObject must answer, by the document's words.
func (c linkCase) byRule() linkAnswer {
	if len(c.table) > 4096 {
		return linkAnswer{fault: impl.ErrLong}
	}
	_, fault := objectByRule(c.object)
	if fault != impl.OK || !tableByRule(c.table) || !areaByRule(c.code) || !areaByRule(c.data) {
		return linkAnswer{fault: impl.ErrBad}
	}
	if fault := c.namesByRule(); fault != impl.OK {
		return linkAnswer{fault: fault}
	}
	out := c.placedByRule()
	if out.fault != impl.OK {
		return out
	}
	if fault := c.relocateByRule(&out); fault != impl.OK {
		return linkAnswer{fault: fault}
	}
	if fault := c.builtByRule(out); fault != impl.OK {
		return linkAnswer{fault: fault}
	}
	return out
}

// check holds the answer against what the document asks.
func (c linkCase) check(t *testing.T, what string) {
	t.Helper()
	if got, want := c.link(), c.byRule(); !got.is(want) {
		t.Errorf("%s: LinkObject = %v, not %v, of %v, %v, %v, %s", what, got, want, c.table, c.code, c.data, objectString(c.object))
	}
}

// fails holds the answer against a code; nothing may stand beside it.
func (c linkCase) fails(t *testing.T, what string, fault int) {
	t.Helper()
	if got := c.link(); !got.is(linkAnswer{fault: fault}) {
		t.Errorf("%s: LinkObject = %v, not the code %s alone", what, got, impl.CodeWord(fault))
	}
	c.check(t, what)
}

func checkCode(t *testing.T, what, code string, frame int, body string) {
	t.Helper()
	if want := functionOf(frame, listed(body)...); code != wordsOf(want.list) {
		t.Errorf("%s: %v, not %v", what, instrsByRule(code), want)
	}
}

func TestLinkingASystemsObject(t *testing.T) {
	c := systemCase()
	c.check(t, "the system")
	got := c.link()
	l := got.linked
	if got.fault != impl.OK || !slices.Equal(l.Ats, []int{8208, 8280, 8320, 8352}) || !slices.Equal(l.DataAts, []int{20488, 20504}) {
		t.Fatal(got)
	}
	if got.code != (impl.Area{Base: 8192, Size: 1024, Top: 8376}) || got.data != (impl.Area{Base: 20480, Size: 256, Top: 20528}) {
		t.Error("areas:", got.code, got.data)
	}
	checkCode(t, "leaf", l.Codes[0], 32, "lui x5 20480\naddi x5 x5 16\nlui x6 20480\nsd x5 x6 -2048\nauipc x7 8192\nld x7 x7 -40\nauipc x8 12288\nsb x7 x8 -21\njal x1 -4152\njal x1 28\njal x1 -4136\njal x1 1040312")
	checkCode(t, "aid", l.Codes[1], 16, "addi x5 x5 1\nbne x5 x6 -4\njal x1 -16\njal x0 4")
	checkCode(t, "help", l.Codes[2], 48, "addi x5 x5 1\njal x1 -52")
	checkCode(t, "main", l.Codes[3], 16, "jal x1 -40")
	// 8280 is 0x2058; main less 2147483648 is 4096 above the least number of 32 bits; tail and 2147483647 is 0x80005017.
	if want := "\x58\x20\x00\x00\x00\x00\x00\x00\xff\xff\xff\xff\xff\xff\xff\xff"; l.Datas[0] != want {
		t.Errorf("more: %x", l.Datas[0])
	}
	if want := "\x00\x10\x00\x80\xff\xff\xff\xffIJKLMNOP\x17\x50\x00\x80\x00\x00\x00\x00"; l.Datas[1] != want {
		t.Errorf("tail: %x", l.Datas[1])
	}
}

// The pairs, jumps and calls of what was linked lead to their symbols.
func TestWhatIsLinkedLeadsToItsSymbols(t *testing.T) {
	c := systemCase()
	for _, top := range []int{8192, 8200, 8208, 8760, 8936} {
		c.code.Top = top
		c.check(t, fmt.Sprint("from ", top))
		got := c.link()
		if got.fault != impl.OK {
			t.Errorf("from %d: %v", top, got)
			continue
		}
		for _, r := range c.object.Relocs {
			address, _ := c.addressByRule(got, r.Symbol)
			if r.Unit >= 4 {
				if v, _ := impl.TakeLittle(got.linked.Datas[r.Unit-4], 8*r.At, 8); v != address+r.Addend {
					t.Errorf("%v: %d", r, v)
				}
				continue
			}
			place := got.linked.Ats[r.Unit] + 4*r.At
			word := func(i int) int {
				v, _ := impl.TakeLittle(got.linked.Codes[r.Unit], 4*i, 4)
				return v
			}
			leads, code := 0, 0
			switch r.Kind {
			case impl.RelHi20, impl.RelPcHi20:
				leads, code = impl.PairAddress(word(r.At), word(r.At+1), place)
			case impl.RelJal, impl.RelBranch:
				leads, code = impl.TargetOf(word(r.At), place)
			default:
				continue
			}
			if leads != address+r.Addend || code != impl.OK {
				t.Errorf("from %d, %v leads to %d, %d", top, r, leads, code)
			}
		}
	}
}

// checkLies holds promise 11 of an answer: its pieces lie side by side in their areas, and its functions hold to the rules there.
func checkLies(t *testing.T, c linkCase, got linkAnswer) {
	t.Helper()
	inOrder := func(area, after impl.Area, ats []int, texts []string) {
		end := area.Top
		for n, at := range ats {
			if at != end || at%8 != 0 {
				t.Errorf("piece %d of %v begins at %d, not at %d", n, texts, at, end)
			}
			end = at + (len(texts[n])+7)/8*8
		}
		if len(ats) != len(texts) || after != (impl.Area{Base: area.Base, Size: area.Size, Top: end}) || !impl.AreaOK(after) {
			t.Errorf("the area is %v behind %v, the pieces end at %d", after, area, end)
		}
	}
	inOrder(c.code, got.code, got.linked.Ats, got.linked.Codes)
	inOrder(c.data, got.data, got.linked.DataAts, got.linked.Datas)
	var calls []int
	for _, e := range c.table {
		if e.Kind == 1 {
			calls = append(calls, e.At)
		}
	}
	for n, f := range c.object.Funcs {
		if !f.Replaces {
			calls = append(calls, got.linked.Ats[n])
		}
	}
	for n, f := range c.object.Funcs {
		if where, fault := impl.LintFunction(got.linked.Codes[n], got.linked.Ats[n], f.Frame, calls); where != 0 || fault != impl.OK {
			t.Errorf("function %d where it lies: %d, %d", n, where, fault)
		}
	}
}

func TestPiecesLieSideBySide(t *testing.T) {
	for words := 5; words <= 64; words++ {
		for other := 5; other <= 64; other += 7 {
			c := systemCase()
			c.object = impl.Object{Name: "a", Depth: words % 6}
			for i, n := range []int{words, other, words, 64 - words/2} {
				b := longFunction(allFrames[i], n)
				c.object.Funcs = append(c.object.Funcs, impl.PatchFunc{Name: fmt.Sprint("g", i), Frame: b.frame, Code: wordsOf(b.list)})
				c.object.Datas = append(c.object.Datas, impl.PatchData{Name: fmt.Sprint("e", i), Bytes: dataOf(8 + (words+i*other)%8*8)})
			}
			for _, base := range []int{0, 8192, 1048576 - 1024} {
				c.code = impl.Area{Base: base, Size: 1024, Top: base}
				c.data = impl.Area{Base: base, Size: 256, Top: base}
				got := c.link()
				if got.fault != impl.OK {
					t.Fatal(got)
				}
				checkLies(t, c, got)
				for n, f := range c.object.Funcs {
					if got.linked.Codes[n] != f.Code || got.linked.Datas[n] != c.object.Datas[n].Bytes {
						t.Errorf("unit %d changes without a relocation", n)
					}
				}
			}
		}
	}
}

func TestObjectsOfOneFunction(t *testing.T) {
	c := systemCase()
	c.object = impl.Object{Name: "a", Funcs: []impl.PatchFunc{patchOf("main", true, 16, "")}}
	c.code = impl.Area{Size: 24}
	for _, data := range []impl.Area{{}, {Base: 8, Top: 8}, {Base: 20480, Size: 256, Top: 20736}} {
		c.data = data
		want := linkAnswer{impl.Linked{Ats: []int{0}, Codes: []string{c.object.Funcs[0].Code}}, impl.Area{Size: 24, Top: 24}, data, impl.OK}
		if got := c.link(); !got.is(want) {
			t.Errorf("a function alone: %v", got)
		}
		c.check(t, "a function alone")
	}
}

// relinked answers the system's case with one function's relocation alone, of an instruction that takes that kind.
func relinked(kind int, symbol string, addend int) linkCase {
	texts := []string{"lui x5 0", "addi x5 x5 0", "sd x5 x6 0", "auipc x5 0", "lw x5 x6 0", "sh x5 x6 0", "jal x1 0", "beq x5 x6 0"}
	return systemCase().with(func(o *impl.Object) {
		o.Funcs[1] = patchOf("aid", false, 16, "addi x9 x9 1\n"+texts[kind-1])
		o.Relocs = []impl.Reloc{{Unit: 1, At: 3, Kind: kind, Symbol: symbol, Addend: addend}}
		// The other functions have calls that lead nowhere as they are.
		o.Funcs[0], o.Funcs[2], o.Funcs[3] = patchOf("leaf", true, 32, ""), patchOf("help", false, 16, "addi x5 x5 1"), patchOf("main", true, 16, "")
	})
}

func TestEachKindWithEachSymbolAndAddend(t *testing.T) {
	addends := slices.Concat(aboutEach(0, 8, -2048, 2048, 4096, -4096, 1<<20, -1<<20), []int{leastAddend, leastAddend + 1, greatestAddend, greatestAddend - 1, greatestAddend - 2047 - 20480, 1000000000, -1000000000})
	names := []string{"main", "leaf", "far", "count", "edge", "aid", "help", "more", "tail", "fn3", "da3"}
	told := map[int]int{}
	for kind := 1; kind <= 8; kind++ {
		for _, name := range names {
			for _, addend := range addends {
				c := relinked(kind, name, addend)
				c.check(t, fmt.Sprint(relocNames[kind], " of ", name, " and ", addend))
				told[c.link().fault]++
			}
		}
	}
	for _, code := range []int{impl.OK, impl.ErrReach, impl.ErrCall, impl.ErrJump} {
		if told[code] < 20 {
			t.Errorf("only %d cases of code %s", told[code], impl.CodeWord(code))
		}
	}
	for _, name := range names {
		for _, addend := range addends {
			for at := range 3 {
				c := systemCase().with(func(o *impl.Object) {
					o.Relocs = slices.Concat(o.Relocs[:19], []impl.Reloc{{Unit: 5, At: at, Kind: 9, Symbol: name, Addend: addend}})
				})
				c.check(t, fmt.Sprint("word64 of ", name, " and ", addend))
				address, _ := c.addressByRule(c.link(), name)
				if v, code := impl.TakeLittle(c.link().linked.Datas[1], 8*at, 8); v != address+addend || code != impl.OK {
					t.Errorf("word64 of %s and %d: %d, %d", name, addend, v, code)
				}
			}
		}
	}
}

// A function that is replaced means its entry, in a call and in data; a new one means where it was placed.
func TestWhoseNameComesFirst(t *testing.T) {
	for _, v := range []struct {
		name    string
		address int
	}{{"main", 4096}, {"leaf", 4120}, {"aid", 8232}, {"help", 8264}, {"more", 20488}, {"tail", 20504}, {"count", 16384}, {"edge", 18432}, {"far", 1048572}, {"fn7", 4284}, {"da0", 16400}} {
		c := relinked(2, "count", 0)
		c.object.Relocs = []impl.Reloc{{Unit: 4, At: 0, Kind: 9, Symbol: v.name}}
		c.check(t, v.name)
		got := c.link()
		if got.fault != impl.OK || got.linked.Ats[0] != 8208 || got.linked.Ats[1] != 8232 || got.linked.Ats[2] != 8264 {
			t.Fatal(got)
		}
		if at, _ := impl.TakeLittle(got.linked.Datas[0], 0, 8); at != v.address {
			t.Errorf("%s is at %d, not at %d", v.name, at, v.address)
		}
	}
	for _, name := range []string{"gone", "fix", "Main", "MAIN", "mai", "main_", "x", "_", longestName} {
		for kind := 1; kind <= 8; kind++ {
			relinked(kind, name, 0).fails(t, name, impl.ErrSymbol)
		}
		systemCase().with(func(o *impl.Object) { o.Relocs[20].Symbol = name }).fails(t, name, impl.ErrSymbol)
	}
	// The table of an empty system has no name at all.
	c := systemCase().with(func(o *impl.Object) {
		o.Funcs, o.Relocs = []impl.PatchFunc{patchOf("aid", false, 16, "jal x1 -8")}, []impl.Reloc{{Unit: 1, At: 0, Kind: 9, Symbol: "aid"}}
	})
	c.table = nil
	c.check(t, "an empty table")
	if got := c.link(); got.fault != impl.OK || !strings.HasPrefix(got.linked.Datas[0], "\x10\x20\x00\x00\x00\x00\x00\x00abc") {
		t.Error("an empty table:", got)
	}
	c.object.Relocs[0].Symbol = "main"
	c.fails(t, "an empty table", impl.ErrSymbol)
}

func TestCallsThatMayBe(t *testing.T) {
	// At 8220 aid calls by a jal that has no relocation: each address from 4000 to 8400, and about what is far.
	c := relinked(7, "aid", 0)
	c.object.Relocs = nil
	at := c.link()
	if at.fault != impl.ErrCall {
		t.Error("a jal to itself:", at)
	}
	placed := c.placedByRule().linked.Ats
	entries := []int{placed[1], placed[2]}
	for _, e := range c.table {
		if e.Kind == 1 {
			entries = append(entries, e.At)
		}
	}
	for _, to := range slices.Concat(basesFrom(4000, 2, 2300), aboutEach(1048572, 16384, 18432, 20488, 0)) {
		imm := to - (placed[1] + 12)
		if imm%2 != 0 {
			continue
		}
		body := slices.Concat(listed("addi x9 x9 1"), []impl.Instr{{Op: impl.OpJal, Rd: 1, Imm: imm}})
		called := c.with(func(o *impl.Object) { o.Funcs[1].Code = wordsOf(functionOf(16, body...).list) })
		want := codeUnless(slices.Contains(entries, to), impl.ErrCall)
		if got := called.link(); got.fault != want {
			t.Errorf("a call of %d: %s, not %s", to, impl.CodeWord(got.fault), impl.CodeWord(want))
		}
		called.check(t, fmt.Sprint("a call of ", to))
	}
}

// A function that replaces may call the one that it replaces, by its entry, but not where it lies itself; a new one may be called, wherever it stands.
func TestCallsOfReplacedAndOfNewFunctions(t *testing.T) {
	own := func(replaces bool) linkCase {
		c := systemCase()
		c.object = impl.Object{Name: "a", Funcs: []impl.PatchFunc{patchOf([]string{"own", "leaf"}[oneIf(replaces)], replaces, 16, "jal x1 -8")}}
		return c
	}
	own(true).fails(t, "a replaced function that calls where it lies", impl.ErrCall)
	if got := own(false).link(); got.fault != impl.OK {
		t.Error("a new function that calls itself:", got)
	}
	for from := range 4 {
		for to := range 4 {
			for _, replaces := range []bool{false, true} {
				c := systemCase()
				c.object = impl.Object{Name: "a"}
				for n := range 4 {
					f := patchOf(fmt.Sprint("new", n), false, 16, "jal x1 0")
					if f.Code = wordsOf(functionOf(16, impl.Instr{Op: impl.OpJal, Rd: 1, Imm: 24*to - 24*n - 8}).list); n != from {
						f = patchOf(fmt.Sprint("new", n), false, 16, "addi x5 x5 1")
					}
					if n == to && replaces {
						f.Name, f.Replaces = "leaf", true
					}
					c.object.Funcs = append(c.object.Funcs, f)
				}
				want := codeUnless(!replaces, impl.ErrCall)
				if got := c.link(); got.fault != want {
					t.Errorf("function %d calls function %d, which replaces: %v: %v", from, to, replaces, got)
				}
				c.check(t, "a call")
			}
		}
	}
}
