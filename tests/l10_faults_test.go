package tests

import (
	"fmt"
	"slices"
	"testing"

	"loop.example/g00654/impl"
)

// linkSpoiler brings a fault into the system's case.
type linkSpoiler struct {
	what  string
	spoil func(c *linkCase)
	fault int
}

// badSpoilers has what is not right by itself; the table that is too long comes ahead of all.
func badSpoilers() []linkSpoiler {
	list := []linkSpoiler{{"a table that is too long", func(c *linkCase) { c.table = slices.Concat(c.table, make([]impl.Entry, impl.MaxList)) }, impl.ErrLong}}
	add := func(what string, spoil func(c *linkCase)) { list = append(list, linkSpoiler{what, spoil, impl.ErrBad}) }
	add("65 entries", func(c *linkCase) { c.table = slices.Concat(c.table, severalEntries(44)) })
	add("a name twice in the table", func(c *linkCase) { c.table[20].Name = c.table[0].Name })
	add("an owner", func(c *linkCase) { c.table[1].Owner = 7 })
	add("a code area's base", func(c *linkCase) { c.code.Base = 8196 })
	add("a code area's top", func(c *linkCase) { c.code.Top = 8184 })
	add("a data area's size", func(c *linkCase) { c.data.Size = 1 << 20 })
	add("a data area's top", func(c *linkCase) { c.data.Top = 20492 })
	add("an object's name", func(c *linkCase) { c.object.Name = "9" })
	add("a function's frame", func(c *linkCase) { c.object.Funcs[3].Frame = 8 })
	add("a list of functions that is too long", func(c *linkCase) { c.object.Funcs = slices.Concat(c.object.Funcs, make([]impl.PatchFunc, 4096)) })
	add("a relocation's unit", func(c *linkCase) { c.object.Relocs[20].Unit = 6 })
	add("an Id", func(c *linkCase) { c.object.Shadows = []impl.ShadowDecl{{Id: 256}} })
	return list
}

// nameSpoilers has the faults of the object's names in the document's order; no two of them take the same name.
func nameSpoilers() []linkSpoiler {
	var list []linkSpoiler
	for n := range 4 {
		set := func(what, name string, replaces bool, fault int) {
			list = append(list, linkSpoiler{fmt.Sprint(what, " of function ", n), func(c *linkCase) { c.object.Funcs[n].Name, c.object.Funcs[n].Replaces = name, replaces }, fault})
		}
		set("a name that is not there", fmt.Sprint("gone", n), true, impl.ErrSymbol)
		set("the name of data", fmt.Sprint("da", n), true, impl.ErrKind)
		set("a name that is there", fmt.Sprint("fn", n), false, impl.ErrClash)
		set("a name that data have", fmt.Sprint("da", 4+n), false, impl.ErrClash)
	}
	for n := range 2 {
		for _, name := range []string{fmt.Sprint("fn", 4+n), []string{"count", "edge"}[n]} {
			list = append(list, linkSpoiler{fmt.Sprint("a name that is there, of data ", n), func(c *linkCase) { c.object.Datas[n].Name = name }, impl.ErrClash})
		}
	}
	return list
}

// roomSpoilers has the areas without enough room.
func roomSpoilers() []linkSpoiler {
	var list []linkSpoiler
	for _, size := range []int{16, 80, 88, 128, 160, 176} {
		list = append(list, linkSpoiler{fmt.Sprint(size, " bytes for code"), func(c *linkCase) { c.code.Size = size }, impl.ErrFull})
	}
	for _, size := range []int{8, 16, 24, 32, 40} {
		list = append(list, linkSpoiler{fmt.Sprint(size, " bytes for data"), func(c *linkCase) { c.data.Size = size }, impl.ErrFull})
	}
	return list
}

// putCode gives a function of the case another word.
func (c *linkCase) putCode(n, i, word int) {
	c.object.Funcs[n].Code = overlaid(c.object.Funcs[n].Code, 4*i, littleByBits(word, 4))
}

// relocFaults has the faults of the relocations in the document's order: in turn, of each its symbol, its word, its kind, how far it is.
func relocFaults() []linkSpoiler {
	var list []linkSpoiler
	for n, r := range systemObject().Relocs {
		add := func(what string, fault int, spoil func(c *linkCase)) {
			list = append(list, linkSpoiler{fmt.Sprint(what, " of relocation ", n), spoil, fault})
		}
		add("no symbol", impl.ErrSymbol, func(c *linkCase) { c.object.Relocs[n].Symbol = "gone" })
		if r.Unit >= 4 {
			continue
		}
		add("no instruction", impl.ErrCode, func(c *linkCase) { c.putCode(r.Unit, r.At, noWords[n%len(noWords)]) })
		add("another instruction", impl.ErrKind, func(c *linkCase) { c.putCode(r.Unit, r.At, wordOf(named("jalr x0 x1 0"))) })
		add("another kind", impl.ErrKind, func(c *linkCase) { c.object.Relocs[n].Kind = 1 + r.Kind%8 })
		if r.Kind == 1 || r.Kind == 4 || r.Kind >= 7 {
			add("far away", impl.ErrReach, func(c *linkCase) { c.object.Relocs[n].Addend = greatestAddend })
		}
	}
	return list
}

// builtSpoilers has the faults of functions where they lie, in turn; of each in the order of LintFunction.
func builtSpoilers() []linkSpoiler {
	var list []linkSpoiler
	lasts := []int{16, 8, 6, 5}
	free := []int{14, 2, 2, 3}
	for n := range 4 {
		put := func(what string, i, word, fault int) {
			list = append(list, linkSpoiler{fmt.Sprint(what, " in function ", n), func(c *linkCase) { c.putCode(n, i, word) }, fault})
		}
		put("no instruction", free[n], greatWord, impl.ErrCode)
		put("another prologue", 0, wordOf(named("addi x2 x2 -8")), impl.ErrFrame)
		put("another end", lasts[n], wordOf(named("ecall")), impl.ErrEnd)
		if n == 1 || n == 2 {
			put("a return", 2, wordOf(named("jalr x0 x1 0")), impl.ErrReturn)
			put("a call of its prologue", 2, wordOf(named("jal x1 -4")), impl.ErrCall)
			put("a jump to its prologue", 2, wordOf(named("jal x0 -8")), impl.ErrJump)
			put("a register", 2, wordOf(named("addi x1 x0 0")), impl.ErrReg)
			put("a place below the frame", 2, wordOf(named("ld x5 x2 -8")), impl.ErrFrame)
		}
	}
	return list
}

// callSpoilers has the calls that were relocated to where none may go, in the order of their functions.
func callSpoilers() []linkSpoiler {
	var list []linkSpoiler
	for n, r := range systemObject().Relocs {
		if r.Kind != 7 || n == 14 {
			continue
		}
		list = append(list,
			linkSpoiler{fmt.Sprint("a call within a function, of relocation ", n), func(c *linkCase) { c.object.Relocs[n].Addend += 4 }, impl.ErrCall},
			linkSpoiler{fmt.Sprint("a call of data, of relocation ", n), func(c *linkCase) { c.object.Relocs[n].Symbol = "count" }, impl.ErrCall},
			linkSpoiler{fmt.Sprint("a call of new data, of relocation ", n), func(c *linkCase) { c.object.Relocs[n].Symbol = "more" }, impl.ErrCall})
	}
	return list
}

// spoiledBy answers the system's case with some faults; the last one is brought in last.
func spoiledBy(list ...linkSpoiler) linkCase {
	c := systemCase()
	c.object = copied(c.object)
	for _, s := range list {
		s.spoil(&c)
	}
	return c
}

func TestEachFaultOfLinkingByItself(t *testing.T) {
	for _, s := range slices.Concat(badSpoilers(), nameSpoilers(), roomSpoilers(), relocFaults(), builtSpoilers(), callSpoilers()) {
		spoiledBy(s).fails(t, s.what, s.fault)
	}
}

// A fault of an earlier step stands ahead of each of a later one, in whatever function or relocation that is.
func TestFaultsOfLinkingInTheirOrder(t *testing.T) {
	steps := [][]linkSpoiler{badSpoilers(), nameSpoilers(), roomSpoilers(), relocFaults(), slices.Concat(builtSpoilers(), callSpoilers())}
	for i, step := range steps {
		for _, later := range slices.Concat(steps[i+1:]...) {
			for _, first := range step {
				c := spoiledBy(later, first)
				if got := c.link(); !got.is(linkAnswer{fault: first.fault}) {
					t.Errorf("%s, %s: %v", first.what, later.what, got)
				}
			}
		}
	}
	for _, later := range slices.Concat(steps...) {
		spoiledBy(later, badSpoilers()[0]).fails(t, "a table that is too long, "+later.what, impl.ErrLong)
	}
}

// In turn: whose number is lower counts, not the kind of the fault.
func TestFaultsOfLinkingInTurn(t *testing.T) {
	for _, list := range [][]linkSpoiler{nameSpoilers(), relocFaults()} {
		for i, first := range list {
			for _, later := range list[i+1:] {
				spoiledBy(later, first).fails(t, first.what+", "+later.what, first.fault)
			}
		}
	}
	built := builtSpoilers()
	for _, first := range built {
		for _, later := range built {
			var n, m int
			fmt.Sscan(first.what[len(first.what)-1:], &n)
			fmt.Sscan(later.what[len(later.what)-1:], &m)
			if n < m {
				spoiledBy(later, first).fails(t, first.what+", "+later.what, first.fault)
			}
		}
	}
}

func TestLinkingWithWrongArguments(t *testing.T) {
	for what, table := range wrongTables() {
		c := systemCase()
		c.table = table
		c.fails(t, what, impl.ErrBad)
		c.object = impl.Object{}
		c.fails(t, what, impl.ErrBad)
	}
	for _, a := range wrongAreas() {
		for _, other := range append(wrongAreas(), systemCase().code) {
			c := systemCase()
			c.code, c.data = a, other
			c.fails(t, "a code area", impl.ErrBad)
			c.code, c.data = other, a
			c.fails(t, "a data area", impl.ErrBad)
		}
	}
	for what, o := range wrongObjects() {
		c := systemCase()
		c.object = o
		c.fails(t, what, impl.ErrBad)
		c.table = make([]impl.Entry, impl.MaxList+1)
		c.fails(t, what, impl.ErrLong)
	}
	for _, o := range rightObjects() {
		c := systemCase()
		c.object = o
		c.check(t, "an object of bytes that are no functions")
	}
}

// checkRoom links the system's object with each size of an area that begins at base and of which some is taken ahead.
func checkRoom(t *testing.T, areaOf func(c *linkCase) *impl.Area, base, most, needs int) {
	t.Helper()
	for _, top := range []int{base, base + 8, base + 16, base + most - needs} {
		for size := 0; size <= most; size += 8 {
			c := systemCase()
			area := areaOf(&c)
			*area = impl.Area{Base: base, Size: size, Top: top}
			want := codeUnless(top+needs <= base+size, impl.ErrFull)
			if top > base+size {
				want = impl.ErrBad
			}
			if got := c.link(); got.fault != want {
				t.Errorf("%v for %d bytes: %v", *area, needs, got)
			}
			c.check(t, fmt.Sprint("an area ", *area))
		}
	}
}

// Room for all, for 8 bytes less of each piece's end, and for none.
func TestRoomForWhatIsLinked(t *testing.T) {
	checkRoom(t, func(c *linkCase) *impl.Area { return &c.code }, 8192, 1024, 168)
	checkRoom(t, func(c *linkCase) *impl.Area { return &c.data }, 20480, 256, 40)
}

// bodyPart is a part of a function's body; the places of its relocations are counted from its beginning.
type bodyPart struct {
	list   []impl.Instr
	relocs []impl.Reloc
}

var (
	anyNames   = []string{"main", "leaf", "far", "count", "edge", "new0", "new1", "new2", "new3", "dat0", "dat1", "dat2"}
	calledOnes = []string{"main", "leaf", "far", "new0", "new1", "new2", "new3"}
)

// anyPair answers two instructions that make up an address, as a rule.
func anyPair(d *dice) bodyPart {
	symbol, addend := anyNames[d.below(len(anyNames))], 8*d.below(300)-1200
	first, kind := impl.OpLui, 1
	if d.below(2) == 0 {
		first, kind = impl.OpAuipc, 4
	}
	register := 5 + d.below(20)
	second, secondKind := impl.Instr{Op: impl.OpLb + d.below(7), Rd: 5 + d.below(20), Rs1: register}, kind+1
	if d.below(2) == 0 {
		second, secondKind = impl.Instr{Op: impl.OpSb + d.below(4), Rs1: register, Rs2: d.below(32)}, kind+2
	}
	return bodyPart{
		[]impl.Instr{{Op: first, Rd: register, Imm: 4096 * d.below(9)}, second},
		[]impl.Reloc{{At: 0, Kind: kind, Symbol: symbol, Addend: addend}, {At: 1, Kind: secondKind, Symbol: symbol, Addend: addend}},
	}
}

// anyWrongPart answers one instruction that is wrong in most places, some with a relocation.
func anyWrongPart(d *dice) bodyPart {
	texts := []string{"jalr x0 x1 0", "addi x1 x0 0", "jal x1 8", "jal x5 4", "beq x0 x0 -400", "ld x5 x2 -8", "sd x5 x2 120"}
	x := named("%s", texts[d.below(len(texts))])
	if d.below(5) == 0 {
		x = noInstr(noWords[d.below(len(noWords))])
	}
	if d.below(2) == 0 {
		return bodyPart{list: []impl.Instr{x}}
	}
	return bodyPart{[]impl.Instr{x}, []impl.Reloc{{Kind: 1 + d.below(8), Symbol: anyNames[d.below(len(anyNames))], Addend: d.below(9)}}}
}

// anyPart answers a part of the body of a function.
func anyPart(d *dice, own string) bodyPart {
	switch d.below(16) {
	case 0, 1, 2, 3:
		return anyPair(d)
	case 4, 5, 6, 7:
		return bodyPart{listed("jal x1 0"), []impl.Reloc{{Kind: 7, Symbol: calledOnes[d.below(len(calledOnes))]}}}
	case 8:
		return bodyPart{[]impl.Instr{{Op: impl.OpBeq + d.below(6), Rs1: d.below(32), Rs2: d.below(32)}}, []impl.Reloc{{Kind: 8, Symbol: own, Addend: 8}}}
	case 9:
		return bodyPart{listed("jal x0 0"), []impl.Reloc{{Kind: 7, Symbol: own, Addend: 8 + d.below(8)/7}}}
	case 10:
		if d.below(2) == 0 {
			return anyWrongPart(d)
		}
	}
	return bodyPart{list: listed("addi x5 x5 1\nslli x6 x5 3")[d.below(2):]}
}

// anyFunction answers a function of unit n, and its relocations.
func anyFunction(d *dice, n int) (impl.PatchFunc, []impl.Reloc) {
	f := impl.PatchFunc{Name: fmt.Sprint("new", n), Frame: allFrames[d.below(8)]}
	if d.below(3) == 0 {
		f.Name, f.Replaces = []string{"main", "leaf", "far", "count"}[n], true
	}
	if d.below(60) == 0 {
		f.Replaces = !f.Replaces
	}
	var body []impl.Instr
	var relocs []impl.Reloc
	for range d.below(8) {
		part := anyPart(d, f.Name)
		for _, r := range part.relocs {
			r.Unit, r.At = n, r.At+2+len(body)
			relocs = append(relocs, r)
		}
		body = append(body, part.list...)
	}
	frame := f.Frame
	if d.below(60) == 0 {
		frame = 16
	}
	f.Code = wordsOf(functionOf(frame, body...).list)
	return f, relocs
}

// anyLinkCase answers a case that can be linked, or nearly.
func anyLinkCase(d *dice) linkCase {
	c := systemCase()
	c.table, c.object = c.table[:5], impl.Object{Name: "any", Depth: d.below(6)}
	if d.below(20) == 0 {
		c.table = slices.Delete(c.table, 0, d.below(5))
	}
	for n := range 1 + d.below(4) {
		f, relocs := anyFunction(d, n)
		c.object.Funcs, c.object.Relocs = append(c.object.Funcs, f), append(c.object.Relocs, relocs...)
	}
	for n := range d.below(4) {
		data := impl.PatchData{Name: fmt.Sprint("dat", n), Bytes: dataOf(8 + 8*d.below(8))}
		for at := d.below(4); at < len(data.Bytes)/8; at += 1 + d.below(6) {
			c.object.Relocs = append(c.object.Relocs, impl.Reloc{Unit: len(c.object.Funcs) + n, At: at, Kind: 9, Symbol: anyNames[d.below(len(anyNames))], Addend: []int{0, leastAddend, greatestAddend, d.below(1000) - 500}[d.below(4)]})
		}
		c.object.Datas = append(c.object.Datas, data)
	}
	c.code.Top += 8 * d.below(60)
	c.data.Top += 8 * d.below(16)
	switch d.below(40) {
	case 0:
		c.code.Size = 8 * d.below(128)
	case 1:
		c.data.Size = 4 * d.below(64)
	case 2:
		spoilEntry(d, &c.table[d.below(len(c.table))])
	}
	return c
}

func TestAnyObjectIsLinkedByTheDocumentsWords(t *testing.T) {
	d := dice(23)
	told := map[int]int{}
	for range 12000 {
		c := anyLinkCase(&d)
		c.check(t, "any object")
		got := c.link()
		if got.fault == impl.OK {
			checkLies(t, c, got)
		}
		if told[got.fault]++; t.Failed() {
			return
		}
	}
	for _, code := range []int{impl.OK, impl.ErrBad, impl.ErrSymbol, impl.ErrKind, impl.ErrClash, impl.ErrFull, impl.ErrCode, impl.ErrReach, impl.ErrFrame, impl.ErrReturn, impl.ErrCall, impl.ErrJump, impl.ErrReg} {
		if told[code] < 15 || code == impl.OK && told[code] < 1500 {
			t.Errorf("only %d objects of code %s", told[code], impl.CodeWord(code))
		}
	}
}
