package tests

import (
	"maps"
	"math/big"
	"slices"
	"strings"
	"testing"

	"loop.example/g00654/impl"
)

// hartRows has the document's table of operations, each Op one place behind its number.
var hartRows = opRows()

// wrongRegisters has numbers that are no register.
var wrongRegisters = []int{-1, -2, -32, 32, 33, 63, 64, 256, 1 << 32, 1<<32 + 1, leastInt, leastInt + 5, greatestInt}

// hartMemory has pages to run, to read, to write, of stacks, and one that allows nothing.
func hartMemory() impl.Memory {
	perms := map[int]int{0: 4, 4096: 4, 4224: 5, 16384: 3, 16512: 1, 16640: 2, 20480: 0, 32768: 11, 32896: 9, 33024: 10, 33152: 12, lastBase: 7}
	m := impl.Memory{}
	for _, base := range slices.Sorted(maps.Keys(perms)) {
		m.Pages = append(m.Pages, somePage(base, perms[base]))
	}
	return m
}

// hartWith answers a processor at an address whose registers hold the values one after the other, register 1 the first one.
func hartWith(pc int, values ...int) impl.Hart {
	h := impl.Hart{Pc: pc}
	for r := 1; r < 32; r++ {
		h.Regs[r] = values[(r-1)%len(values)]
	}
	return h
}

// numberHart answers a processor with a number of aluInts in each register, no two alike.
func numberHart(pc, first int) impl.Hart {
	h := impl.Hart{Pc: pc}
	for r := 1; r < 32; r++ {
		h.Regs[r] = aluInts[(first+r)%len(aluInts)]
	}
	return h
}

// placedHart answers a processor whose registers 1, 2, 10, 16, 21 and 31 hold the midsts of pages of hartMemory.
func placedHart(pc int) impl.Hart {
	h := numberHart(pc, 3)
	for r, v := range map[int]int{1: 16384 + 64, 2: 32768 + 64, 10: 16384 + 72, 16: 32768 + 64, 21: 16512 + 64, 31: 16640 + 64} {
		h.Regs[r] = v
	}
	return h
}

// somePcs has addresses where an instruction may stand, and some where none can be fetched.
var somePcs = []int{4096, 0, 4097, 4098, 1048572, behind, -1, -2, -4, 1 << 32, leastInt, leastInt + 2, leastInt + 4094, greatestInt, greatestInt - 3, greatestInt - 4093}

// wrapped answers a sum modulo 2 to the 64, as a number with a sign.
func wrapped(parts ...int) int {
	sum := new(big.Int)
	for _, v := range parts {
		sum.Add(sum, big.NewInt(int64(v)))
	}
	return int(signed(sum, 64).Int64())
}

// goesByRule tells whether a branch of a name goes.
func goesByRule(name string, a, b int) bool {
	below := big.NewInt(int64(a)).Cmp(big.NewInt(int64(b))) < 0
	belowU := unsigned(big.NewInt(int64(a)), 64).Cmp(unsigned(big.NewInt(int64(b)), 64)) < 0
	return map[string]bool{"beq": a == b, "bne": a != b, "blt": below, "bge": !below, "bltu": belowU, "bgeu": !belowU}[name]
}

// plainNames has the operation of two registers that each operation does as.
var plainNames = func() map[string]string {
	names := map[string]string{}
	for line := range strings.Lines(computed) {
		row := strings.Fields(line)
		names[row[0]] = row[1]
	}
	return names
}()

// laid answers the memory with other bytes within one page.
func laid(m impl.Memory, address int, text string) impl.Memory {
	pages := slices.Clone(m.Pages)
	for i, p := range pages {
		if at := address - p.Base; at >= 0 && at < 128 {
			pages[i].Data = p.Data[:at] + text + p.Data[at+len(text):]
		}
	}
	return impl.Memory{Pages: pages}
}

// widthByName is how many bytes the name of a load or a store tells.
func widthByName(name string) int {
	return map[byte]int{'b': 1, 'h': 2, 'w': 4, 'd': 8}[name[1]]
}

// loadedByRule is what a load of a name finds.
func loadedByRule(cells map[int]cell, address int, name string) int {
	n := widthByName(name)
	text, _ := bytesAt(cells, address, n)
	if strings.HasSuffix(name, "u") {
		return numberByRule(text)
	}
	return signByBits(numberByRule(text), 8*n)
}

// execByRule is what ExecInstr must answer of all that is right, by the document's words; cells has what the memory has.
func execByRule(h impl.Hart, m impl.Memory, cells map[int]cell, x impl.Instr) (impl.Hart, impl.Memory, int) {
	row := hartRows[x.Op-1]
	a, b, out := h.Regs[x.Rs1], h.Regs[x.Rs2], h
	address, stack := wrapped(a, x.Imm), x.Rs1 == 2
	next := wrapped(h.Pc, 4)
	switch {
	case row.name == "ecall":
		return h, m, impl.ErrEcall
	case row.name == "ebreak":
		return h, m, impl.ErrBreak
	case row.name == "lui":
		out.Regs[x.Rd] = x.Imm
	case row.name == "auipc":
		out.Regs[x.Rd] = wrapped(h.Pc, x.Imm)
	case row.name == "jal":
		out.Regs[x.Rd] = next
		next = wrapped(h.Pc, x.Imm)
	case row.name == "jalr":
		out.Regs[x.Rd] = next
		next = address - bitOf(address, 0)
	case row.shape.Form == 4:
		if goesByRule(row.name, a, b) {
			next = wrapped(h.Pc, x.Imm)
		}
	case row.shape.Code == 3:
		if code := faultByRule(cells, address, widthByName(row.name), 1, stack); code != impl.OK {
			return h, m, code
		}
		out.Regs[x.Rd] = loadedByRule(cells, address, row.name)
	case row.shape.Code == 35:
		if code := faultByRule(cells, address, widthByName(row.name), 2, stack); code != impl.OK {
			return h, m, code
		}
		m = laid(m, address, littleByBits(b, widthByName(row.name)))
	case row.shape.Form == 8:
		out.Regs[x.Rd] = computedByRule(plainNames[row.name], a, b)
	default:
		out.Regs[x.Rd] = computedByRule(plainNames[row.name], a, x.Imm)
	}
	out.Regs[0] = 0
	out.Pc = next
	return out, m, impl.OK
}

// samePages tells whether both memories have the same pages, page by page.
func samePages(a, b impl.Memory) bool { return slices.Equal(a.Pages, b.Pages) }

func checkExec(t *testing.T, h impl.Hart, m impl.Memory, cells map[int]cell, x impl.Instr) {
	t.Helper()
	want, wantMemory, wantCode := execByRule(h, m, cells, x)
	got, gotMemory, gotCode := impl.ExecInstr(h, m, x)
	if got != want || gotCode != wantCode || got.Regs[0] != 0 {
		t.Fatalf("ExecInstr of %s %+v at %d:\n%v, %d, not\n%v, %d", hartRows[x.Op-1].name, x, h.Pc, got, gotCode, want, wantCode)
	}
	if !samePages(gotMemory, wantMemory) {
		t.Fatalf("ExecInstr of %s %+v at %d, %d: other bytes", hartRows[x.Op-1].name, x, h.Pc, gotCode)
	}
}

func TestHartConstants(t *testing.T) {
	if impl.MaxSteps != 1000 || len(impl.Hart{}.Regs) != 32 {
		t.Error("MaxSteps, registers:", impl.MaxSteps, len(impl.Hart{}.Regs))
	}
}

func TestNewHart(t *testing.T) {
	for _, pc := range someInts {
		for _, sp := range someInts {
			want := impl.Hart{Pc: pc}
			want.Regs[2] = sp
			if got := impl.NewHart(pc, sp); got != want || !impl.HartOK(got) {
				t.Fatalf("NewHart(%d, %d) = %v", pc, sp, got)
			}
		}
	}
}

func TestHartsThatAreRight(t *testing.T) {
	for _, v := range someInts {
		h := hartWith(v, v)
		if !impl.HartOK(h) {
			t.Errorf("a processor with %d in each register but 0 is refused", v)
		}
		h.Regs[0] = v
		if impl.HartOK(h) != (v == 0) {
			t.Errorf("a processor with %d in register 0: %v", v, impl.HartOK(h))
		}
	}
}

func TestSetReg(t *testing.T) {
	h := numberHart(4096, 0)
	for r := range 32 {
		for _, v := range someInts {
			want := h
			if r > 0 {
				want.Regs[r] = v
			}
			if got, code := impl.SetReg(h, r, v); got != want || code != impl.OK {
				t.Errorf("SetReg(%d, %d) = %v, %d", r, v, got, code)
			}
		}
	}
	if h != numberHart(4096, 0) {
		t.Error("SetReg changes what it was given")
	}
}

func TestSetRegOfWrongArguments(t *testing.T) {
	none := impl.Hart{}
	for _, h := range []impl.Hart{none, numberHart(4096, 0), impl.NewHart(leastInt, -1)} {
		for _, r := range wrongRegisters {
			if got, code := impl.SetReg(h, r, 7); got != none || code != impl.ErrRange {
				t.Errorf("SetReg(%d) = %v, %d", r, got, code)
			}
		}
		for _, v := range []int{1, -1, leastInt, greatestInt} {
			h.Regs[0] = v
			for _, r := range append([]int{0, 1, 2, 31}, wrongRegisters...) {
				if got, code := impl.SetReg(h, r, 0); got != none || code != impl.ErrBad {
					t.Errorf("SetReg(%d) with %d in register 0 = %v, %d", r, v, got, code)
				}
			}
		}
	}
}

// The registers of rightInstrs are such that some are alike, all three too, and some register 0 or 2.
func TestEachOperationOfEachEdge(t *testing.T) {
	m := hartMemory()
	cells := cellsOf(m)
	harts := []impl.Hart{placedHart(4096), numberHart(4100, 0), numberHart(greatestInt-3, 20), hartWith(leastInt, leastInt, greatestInt, -1, 0)}
	for _, r := range hartRows {
		for i, x := range rightInstrs(r) {
			checkExec(t, placedHart(somePcs[i%len(somePcs)]), m, cells, x)
			checkExec(t, harts[i%len(harts)], m, cells, x)
		}
	}
}

func TestEachOperationAtEachPc(t *testing.T) {
	m := hartMemory()
	cells := cellsOf(m)
	for _, r := range hartRows {
		list := rightInstrs(r)
		for _, pc := range somePcs {
			for i := 0; i < len(list); i += 1 + len(list)/40 {
				checkExec(t, placedHart(pc), m, cells, list[i])
				checkExec(t, hartWith(pc, 5), m, cells, list[i])
			}
		}
	}
}

func TestComputeThroughRegisters(t *testing.T) {
	for name := range plainNames {
		r := hartRows[opByName[name]-1]
		for i, a := range aluInts {
			for _, b := range aluInts {
				h := hartWith(4096, 99)
				h.Regs[6], h.Regs[7] = a, b
				x := impl.Instr{Op: r.op, Rd: 5, Rs1: 6, Rs2: 7}
				if r.shape.Form != 8 {
					edges := fieldEdges(r, "imm")
					x.Rs2, x.Imm = 0, edges[wrapped(i, b)&0xff%len(edges)]
				}
				checkExec(t, h, impl.Memory{}, nil, x)
				x.Rd = 6
				checkExec(t, h, impl.Memory{}, nil, x)
			}
		}
	}
}

func TestOperationsWhoseRegistersAreAllTheSame(t *testing.T) {
	m := hartMemory()
	cells := cellsOf(m)
	for _, r := range hartRows {
		told := formTable[r.shape.Form].told
		values := append([]int{16384, 16392, 16384 + 127, 32768, 16512, 16640, 33024}, aluInts...)
		for register := range 32 {
			for _, v := range values {
				h := hartWith(4096, 7)
				if register > 0 {
					h.Regs[register] = v
				}
				x := impl.Instr{Op: r.op}
				if strings.Contains(told, "rd") {
					x.Rd = register
				}
				if strings.Contains(told, "rs1") {
					x.Rs1 = register
				}
				if strings.Contains(told, "rs2") {
					x.Rs2 = register
				}
				checkExec(t, h, m, cells, x)
			}
		}
	}
}

func TestBranchesGoAndDoNot(t *testing.T) {
	for _, name := range strings.Fields("beq bne blt bge bltu bgeu") {
		eachPair(func(a, b int) {
			h := hartWith(4096, 99)
			h.Regs[8], h.Regs[9] = a, b
			for _, imm := range []int{-4096, -2, 0, 2, 8, 4094} {
				checkExec(t, h, impl.Memory{}, nil, impl.Instr{Op: opByName[name], Rs1: 8, Rs2: 9, Imm: imm})
			}
		})
	}
}

// moves has the name of each load and of each store.
var moves = strings.Fields("lb lh lw ld lbu lhu lwu sb sh sw sd")

// moveThrough answers a load or a store of a name through a register.
func moveThrough(name string, register, other, imm int) impl.Instr {
	if name[0] == 's' {
		return impl.Instr{Op: opByName[name], Rs1: register, Rs2: other, Imm: imm}
	}
	return impl.Instr{Op: opByName[name], Rd: other, Rs1: register, Imm: imm}
}

func TestLoadsAndStoresThroughRegister2AndOthers(t *testing.T) {
	m := hartMemory()
	cells := cellsOf(m)
	for _, p := range m.Pages {
		for _, address := range append(addressesNear(p.Base), wildAddresses...) {
			for i, name := range moves {
				h := hartWith(4096, 0x1122334455667788, -0x1122334455667788)
				imm := []int{0, -1, 8, -2048, 2047}[i%5]
				for _, register := range []int{2, 1, 3, 10, 31} {
					h.Regs[register] = wrapped(address, -imm)
					checkExec(t, h, m, cells, moveThrough(name, register, 5, imm))
				}
			}
		}
	}
}

func TestLoadsAndStoresFromRegister0(t *testing.T) {
	m := memoryOf(3, 0, 128, 1920)
	cells := cellsOf(m)
	for imm := -2048; imm <= 2047; imm++ {
		for _, name := range moves {
			checkExec(t, hartWith(4096, 0x1122334455667788), m, cells, moveThrough(name, 0, 5, imm))
		}
	}
}

func TestLoadsWithAndWithoutASign(t *testing.T) {
	m := laid(memoryOf(3, 16384), 16384, "\xff\xff\xff\xff\xff\xff\xff\xff\x80\x00\x00\x80\x00\x00\x00\x80\x7f\xff\xff\x7f\xff\xff\xff\x7f\xfe\xff\x00\x00\x00\x00\x00\x00")
	rows := []struct {
		name     string
		at, want int
	}{
		{"lb", 0, -1}, {"lbu", 0, 255}, {"lh", 0, -1}, {"lhu", 0, 65535}, {"lw", 0, -1}, {"lwu", 0, greatWord}, {"ld", 0, -1},
		{"lb", 8, -128}, {"lbu", 8, 128}, {"lh", 10, -32768}, {"lhu", 10, 32768}, {"lw", 8, -2147483520}, {"lwu", 8, 2147483776}, {"ld", 8, leastInt + 0x80000080},
		{"lb", 16, 127}, {"lbu", 16, 127}, {"lh", 18, 32767}, {"lhu", 18, 32767}, {"lw", 16, 2147483519}, {"lwu", 16, 2147483519}, {"ld", 16, 0x7fffffff7fffff7f},
		{"lh", 24, -2}, {"lhu", 24, 65534}, {"lw", 24, 65534}, {"lwu", 24, 65534}, {"ld", 24, 65534},
	}
	for _, r := range rows {
		h := impl.NewHart(4096, 0)
		h.Regs[9] = 16384
		got, _, code := impl.ExecInstr(h, m, impl.Instr{Op: opByName[r.name], Rd: 9, Rs1: 9, Imm: r.at})
		if got.Regs[9] != r.want || got.Pc != 4100 || code != impl.OK {
			t.Errorf("%s at %d: %d, pc %d, code %d", r.name, r.at, got.Regs[9], got.Pc, code)
		}
	}
}

func TestStoresLayTheLowestBytesAlone(t *testing.T) {
	m := memoryOf(3, 16384)
	h := impl.NewHart(4096, 16384)
	h.Regs[5] = -0x0102030405060708
	for _, name := range strings.Fields("sb sh sw sd") {
		n := widthByName(name)
		_, got, code := impl.ExecInstr(h, m, impl.Instr{Op: opByName[name], Rs1: 2, Rs2: 5, Imm: 16})
		want := m.Pages[0].Data[:16] + "\xf8\xf8\xf9\xfa\xfb\xfc\xfd\xfe"[:n] + m.Pages[0].Data[16+n:]
		if code != impl.OK || len(got.Pages) != 1 || got.Pages[0].Data != want || got.Pages[0].Perm != 3 {
			t.Errorf("%s: %d, or other bytes", name, code)
		}
	}
}

func TestRegister0Stays(t *testing.T) {
	m := hartMemory()
	h := placedHart(4096)
	for text, pc := range map[string]int{
		"lui x0 -4096": 4100, "auipc x0 4096": 4100, "jal x0 -16": 4080, "jalr x0 x1 5": 16452, "jalr x0 x0 9": 8, "ld x0 x1 0": 4100, "lbu x0 x2 1": 4100,
		"addi x0 x0 5": 4100, "addi x0 x1 -1": 4100, "sub x0 x1 x2": 4100, "divuw x0 x1 x0": 4100, "srai x0 x1 1": 4100, "mulhu x0 x10 x10": 4100, "xori x0 x0 -1": 4100,
	} {
		x, code := impl.ReadInstr(text)
		if code != impl.OK {
			t.Fatal(text)
		}
		want := h
		want.Pc = pc
		if got, after, code := impl.ExecInstr(h, m, x); got != want || !samePages(after, m) || code != impl.OK {
			t.Errorf("%s: %v, %d", text, got, code)
		}
	}
}

func TestJumps(t *testing.T) {
	rows := []struct {
		text       string
		pc, x5     int
		want, left int
	}{
		{"jal x5 8", 4096, 1, 4104, 4100}, {"jal x5 0", 4096, 1, 4096, 4100}, {"jal x5 -1048576", 4096, 1, 4096 - 1048576, 4100}, {"jal x5 1048574", 4096, 1, 4096 + 1048574, 4100}, {"jal x5 2", 4097, 1, 4099, 4101},
		{"jal x5 4", greatestInt - 3, 1, leastInt, leastInt}, {"jal x5 -2", leastInt, 1, greatestInt - 1, leastInt + 4}, {"jal x5 1048574", greatestInt, 1, leastInt + 1048573, leastInt + 3}, {"jal x5 -1048576", leastInt + 1, 1, greatestInt - 1048574, leastInt + 5},
		{"jal x5 -8", 4, 1, -4, 8}, {"jal x5 4", -4, 1, 0, 0},
		{"jalr x5 x5 0", 4096, 8192, 8192, 4100}, {"jalr x5 x5 0", 4096, 8193, 8192, 4100}, {"jalr x5 x5 1", 4096, 8192, 8192, 4100}, {"jalr x5 x5 1", 4096, 8193, 8194, 4100}, {"jalr x5 x5 2", 4096, 8192, 8194, 4100},
		{"jalr x5 x5 -1", 4096, 8192, 8190, 4100}, {"jalr x5 x5 -1", 4096, 0, -2, 4100}, {"jalr x5 x5 2047", 4096, greatestInt, leastInt + 2046, 4100}, {"jalr x5 x5 1", 4096, greatestInt, leastInt, 4100},
		{"jalr x5 x5 -1", 4096, leastInt, greatestInt - 1, 4100}, {"jalr x5 x5 -2048", 4096, leastInt, greatestInt - 2047, 4100}, {"jalr x5 x5 0", greatestInt - 1, 12, 12, leastInt + 2}, {"jalr x5 x0 7", 4096, 12, 6, 4100},
		{"auipc x5 4096", 4096, 1, 4100, 8192}, {"auipc x5 -4096", 4097, 1, 4101, 1}, {"auipc x5 2147479552", greatestInt, 1, leastInt + 3, leastInt + 2147479551}, {"auipc x5 -2147483648", leastInt, 1, leastInt + 4, greatestInt - 2147483647},
		{"lui x5 -2147483648", 4096, 1, 4100, -2147483648}, {"lui x5 2147479552", 4096, 1, 4100, 2147479552}, {"lui x5 0", greatestInt, 1, leastInt + 3, 0},
		{"beq x5 x5 4094", greatestInt - 1, 1, leastInt + 4092, 1}, {"bne x5 x5 4094", greatestInt - 1, 1, leastInt + 2, 1}, {"beq x5 x5 -4096", leastInt + 1, 1, greatestInt - 4094, 1}, {"blt x0 x5 -2", 0, 1, -2, 1}, {"bltu x5 x0 8", 0, -1, 4, -1},
	}
	for _, r := range rows {
		x, code := impl.ReadInstr(r.text)
		if code != impl.OK {
			t.Fatal(r.text)
		}
		h := impl.NewHart(r.pc, 33280)
		h.Regs[5] = r.x5
		want := h
		want.Pc, want.Regs[5] = r.want, r.left
		if got, m, code := impl.ExecInstr(h, impl.Memory{}, x); got != want || len(m.Pages) != 0 || code != impl.OK {
			t.Errorf("%s at %d: pc %d, x5 %d, code %d", r.text, r.pc, got.Pc, got.Regs[5], code)
		}
	}
}

// faultTexts has instructions that have a fault of hartMemory, most of them with a later one beside it; register 9 holds the address, register 2 one without a page.
var faultTexts = []struct {
	text    string
	address int
	code    int
}{
	{"ld x5 x9 0", 16388, impl.ErrAlign}, {"ld x5 x9 0", 8196, impl.ErrAlign}, {"lw x5 x9 0", 20482, impl.ErrAlign}, {"lh x5 x9 0", 32769, impl.ErrAlign}, {"sd x5 x9 0", 8196, impl.ErrAlign}, {"sh x5 x9 0", 32897, impl.ErrAlign}, {"lhu x5 x9 1", leastInt, impl.ErrAlign}, {"sw x5 x9 -1", leastInt, impl.ErrAlign},
	{"ld x5 x9 0", 8192, impl.ErrPage}, {"lb x5 x9 0", 4095, impl.ErrPage}, {"lbu x5 x9 1", -2, impl.ErrPage}, {"sb x5 x9 1", greatestInt, impl.ErrPage}, {"sd x5 x9 0", behind, impl.ErrPage}, {"lwu x5 x9 -4", leastInt, impl.ErrPage},
	{"ld x5 x9 0", 20480, impl.ErrPerm}, {"ld x5 x9 0", 4096, impl.ErrPerm}, {"sd x5 x9 0", 16512, impl.ErrPerm}, {"lb x5 x9 0", 16640, impl.ErrPerm}, {"sb x5 x9 0", 32896, impl.ErrPerm}, {"lb x5 x9 0", 33024, impl.ErrPerm}, {"sw x5 x9 0", 4224, impl.ErrPerm},
	{"ld x5 x9 0", 32768, impl.ErrStack}, {"sd x5 x9 0", 32768, impl.ErrStack}, {"lb x5 x9 0", 32896, impl.ErrStack}, {"sb x5 x9 0", 33024, impl.ErrStack},
	{"ld x0 x9 0", 16388, impl.ErrAlign}, {"ld x0 x9 0", 8192, impl.ErrPage}, {"ld x0 x9 0", 20480, impl.ErrPerm}, {"ld x0 x9 0", 32768, impl.ErrStack}, {"lb x0 x9 0", -1, impl.ErrPage}, {"ld x9 x9 0", 32768, impl.ErrStack},
	{"ld x5 x2 0", 32768, impl.ErrPage}, {"sd x5 x2 0", 32768, impl.ErrPage},
	{"ecall", 16384, impl.ErrEcall}, {"ebreak", 16384, impl.ErrBreak},
}

func TestFaultsLeaveAllAsItWas(t *testing.T) {
	m := hartMemory()
	for _, f := range faultTexts {
		x, code := impl.ReadInstr(f.text)
		if code != impl.OK {
			t.Fatal(f.text)
		}
		for _, pc := range somePcs {
			h := numberHart(pc, 5)
			h.Regs[2], h.Regs[9] = 8192, f.address
			if got, after, code := impl.ExecInstr(h, m, x); got != h || !samePages(after, m) || code != f.code {
				t.Errorf("%s of %d: %d, pc %d, or something is changed", f.text, f.address, code, got.Pc)
			}
		}
		h := numberHart(4096, 5)
		h.Regs[2], h.Regs[9] = 8192, f.address
		checkFaultOfRun(t, h, laid(m, 4096, littleByBits(wordByBits(hartRows[x.Op-1], x), 4)), f.code)
	}
}

// checkFaultOfRun asks that the first step ends with a code, and leaves all as it was.
func checkFaultOfRun(t *testing.T, h impl.Hart, m impl.Memory, want int) {
	t.Helper()
	if got, after, code := impl.StepHart(h, m); got != h || !samePages(after, m) || code != want {
		t.Errorf("StepHart at %d: %d, not %d, or something is changed", h.Pc, code, want)
	}
	for _, n := range []int{1, 2, impl.MaxSteps} {
		if got, after, went, code := impl.RunHart(h, m, n); got != h || !samePages(after, m) || went != 0 || code != want {
			t.Errorf("RunHart of %d steps at %d: %d, %d, not %d, or something is changed", n, h.Pc, went, code, want)
		}
	}
	if got, after, went, code := impl.RunHart(h, m, 0); got != h || !samePages(after, m) || went != 0 || code != impl.OK {
		t.Errorf("RunHart of no step at %d: %d, %d, or something is changed", h.Pc, went, code)
	}
}

// badHartCalls answers what is wrong with the answers of ExecInstr, StepHart and RunHart, where they must be ErrBad.
func badHartCalls(h impl.Hart, m impl.Memory, x impl.Instr) string {
	none := impl.Hart{}
	if got, after, code := impl.ExecInstr(h, m, x); got != none || len(after.Pages) != 0 || code != impl.ErrBad {
		return "ExecInstr"
	}
	if !impl.InstrOK(x) {
		return ""
	}
	if got, after, code := impl.StepHart(h, m); got != none || len(after.Pages) != 0 || code != impl.ErrBad {
		return "StepHart"
	}
	for _, n := range []int{0, 1, 1000, 1001, -1, leastInt, greatestInt} {
		if got, after, went, code := impl.RunHart(h, m, n); got != none || len(after.Pages) != 0 || went != 0 || code != impl.ErrBad {
			return "RunHart"
		}
	}
	return ""
}

func TestHartsThatAreNotRight(t *testing.T) {
	for _, v := range []int{1, -1, 2, 256, 1 << 32, leastInt, greatestInt} {
		for _, pc := range somePcs {
			h := placedHart(pc)
			h.Regs[0] = v
			for _, r := range hartRows {
				if what := badHartCalls(h, hartMemory(), impl.Instr{Op: r.op}); what != "" {
					t.Errorf("%s of %s with %d in register 0", what, r.name, v)
				}
			}
			if what := badHartCalls(h, memoryOf(3, 128, 0), impl.Instr{}); what != "" {
				t.Errorf("%s with %d in register 0 and all else wrong", what, v)
			}
		}
	}
}

func TestMemoriesThatAreNotRightForAHart(t *testing.T) {
	for name, m := range wrongMemories() {
		for _, r := range hartRows {
			if what := badHartCalls(placedHart(4096), m, impl.Instr{Op: r.op}); what != "" {
				t.Errorf("%s of %s: %s", what, r.name, name)
			}
		}
	}
}

func TestInstructionsThatAreNotRight(t *testing.T) {
	m := hartMemory()
	for _, r := range hartRows {
		for _, x := range wrongInstrs(r) {
			if what := badHartCalls(placedHart(4096), m, x); what != "" {
				t.Errorf("%s of %+v", what, x)
			}
		}
	}
	for _, op := range []int{0, -1, 65, 66, 1<<32 + 1, leastInt, greatestInt} {
		if what := badHartCalls(placedHart(4096), m, impl.Instr{Op: op}); what != "" {
			t.Errorf("%s of the operation %d", what, op)
		}
	}
}
