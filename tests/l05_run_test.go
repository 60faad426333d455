package tests

import (
	"slices"
	"strings"
	"testing"

	"loop.example/g00654/impl"
)

// assembled answers the words of instructions, one text a line.
func assembled(t *testing.T, texts string) string {
	t.Helper()
	out := ""
	for line := range strings.Lines(texts) {
		x, code := impl.ReadInstr(strings.TrimSpace(line))
		if code != impl.OK {
			t.Fatal("no instruction:", line)
		}
		out += littleByBits(wordByBits(hartRows[x.Op-1], x), 4)
	}
	return out
}

// runPlaces has places of hartMemory where an instruction may run: at the beginning, in the midst and at the end of pages.
var runPlaces = []int{0, 124, 4096, 4096 + 64, 4096 + 124, 4224, 33152, 33152 + 8, lastBase, lastBase + 60, lastBase + 124}

func checkStep(t *testing.T, h impl.Hart, m impl.Memory, x impl.Instr) {
	t.Helper()
	m = laid(m, h.Pc, littleByBits(wordByBits(hartRows[x.Op-1], x), 4))
	want, wantMemory, wantCode := impl.ExecInstr(h, m, x)
	got, gotMemory, gotCode := impl.StepHart(h, m)
	if got != want || gotCode != wantCode || !samePages(gotMemory, wantMemory) {
		t.Fatalf("StepHart of %s %+v at %d: %v, %d, not %v, %d, or other bytes", hartRows[x.Op-1].name, x, h.Pc, got, gotCode, want, wantCode)
	}
	ran, ranMemory, went, ranCode := impl.RunHart(h, m, 1)
	if ran != want || ranCode != wantCode || !samePages(ranMemory, wantMemory) || went != oneIf(wantCode == impl.OK) {
		t.Fatalf("RunHart of %s %+v at %d: %v, %d, %d, not %v, %d, or other bytes", hartRows[x.Op-1].name, x, h.Pc, ran, went, ranCode, want, wantCode)
	}
}

func oneIf(holds bool) int {
	if holds {
		return 1
	}
	return 0
}

func TestAStepDoesWhatItsInstructionDoes(t *testing.T) {
	m := hartMemory()
	for _, r := range hartRows {
		for i, x := range rightInstrs(r) {
			place := runPlaces[i%len(runPlaces)]
			checkStep(t, placedHart(place), m, x)
			checkStep(t, numberHart(place, i), m, x)
		}
	}
}

// What hangs on Pc moves along with it, all else stays.
func TestAnInstructionDoesWhatItDoesWhereverItStands(t *testing.T) {
	m := hartMemory()
	for _, r := range hartRows {
		list := rightInstrs(r)
		for i := 0; i < len(list); i += 1 + len(list)/60 {
			x := list[i]
			first, firstMemory, firstCode := impl.ExecInstr(placedHart(4096), m, x)
			for _, pc := range append(slices.Clone(runPlaces), somePcs...) {
				got, gotMemory, gotCode := impl.ExecInstr(placedHart(pc), m, x)
				want := first
				if r.name != "jalr" {
					want.Pc = wrapped(first.Pc, pc, -4096)
				}
				if slices.Contains([]string{"auipc", "jal", "jalr"}, r.name) && x.Rd > 0 {
					want.Regs[x.Rd] = wrapped(first.Regs[x.Rd], pc, -4096)
				}
				if got != want || gotCode != firstCode || !samePages(gotMemory, firstMemory) {
					t.Fatalf("%s %+v at %d: %v, %d, not %v, %d", r.name, x, pc, got, gotCode, want, firstCode)
				}
			}
		}
	}
}

func TestFetchesOfAStep(t *testing.T) {
	m := hartMemory()
	none := laid(laid(laid(m, 4096, "\x00\x00\x00\x00"), 4100, "\xff\xff\xff\xff"), 4104, "\x73\x00\x20\x00")
	for pc, code := range map[int]int{
		4097: impl.ErrAlign, 4098: impl.ErrAlign, 4099: impl.ErrAlign, 8193: impl.ErrAlign, 16386: impl.ErrAlign, -1: impl.ErrAlign, leastInt + 1: impl.ErrAlign, greatestInt: impl.ErrAlign,
		8192: impl.ErrPage, 4352: impl.ErrPage, 4092: impl.ErrPage, -4: impl.ErrPage, behind: impl.ErrPage, 1<<32 + 4096: impl.ErrPage, leastInt: impl.ErrPage, leastInt + 4096: impl.ErrPage, greatestInt - 3: impl.ErrPage,
		16384: impl.ErrPerm, 16512: impl.ErrPerm, 16640: impl.ErrPerm, 20480: impl.ErrPerm, 32768: impl.ErrPerm, 32896 + 124: impl.ErrPerm,
		4096: impl.ErrCode, 4100: impl.ErrCode, 4104: impl.ErrCode,
	} {
		checkFaultOfRun(t, placedHart(pc), none, code)
	}
}

// sumProgram lays the sums of 1, of 1 and 2, .. up to 10 side by side from 16384 on, and puts the last one on the stack; then it calls the environment.
const sumProgram = `lui x6 16384
addi x7 x0 0
addi x8 x0 0
addi x9 x0 10
addi x7 x7 1
add x8 x8 x7
sd x8 x6 0
addi x6 x6 8
bne x7 x9 -16
addi x2 x2 -16
sd x8 x2 8
ld x10 x2 8
addi x2 x2 16
ecall`

// sumMemory has a program of whole words from 4096 on, data and a stack.
func sumMemory(code string) impl.Memory {
	m := impl.Memory{Pages: []impl.Page{somePage(4096, 4), somePage(16384, 3), somePage(33152, 11)}}
	return laid(m, 4096, code)
}

func TestARunThatIsKnown(t *testing.T) {
	m := sumMemory(assembled(t, sumProgram))
	h := impl.NewHart(4096, 33280)
	got, after, went, code := impl.RunHart(h, m, 200)
	want := h
	want.Pc = 4096 + 13*4
	want.Regs[6], want.Regs[7], want.Regs[8], want.Regs[9], want.Regs[10] = 16384+80, 10, 55, 10, 55
	wantMemory := laid(m, 33272, littleByBits(55, 8))
	for i := range 10 {
		wantMemory = laid(wantMemory, 16384+8*i, littleByBits((i+1)*(i+2)/2, 8))
	}
	if got != want || went != 4+10*5+4 || code != impl.ErrEcall || !samePages(after, wantMemory) {
		t.Errorf("RunHart: %v, %d, %d, or other bytes", got, went, code)
	}
	for n := range 58 {
		if _, _, went, code := impl.RunHart(h, m, n); went != n || code != impl.OK {
			t.Errorf("RunHart of %d steps: %d, %d", n, went, code)
		}
	}
	if got, _, went, code := impl.RunHart(h, m, 58); got != want || went != 58 || code != impl.OK {
		t.Errorf("RunHart of 58 steps: %v, %d, %d", got, went, code)
	}
}

// moment is what a run has come to.
type moment struct {
	hart   impl.Hart
	memory impl.Memory
	went   int
	code   int
}

func runOf(h impl.Hart, m impl.Memory, n int) moment {
	hart, memory, went, code := impl.RunHart(h, m, n)
	return moment{hart, memory, went, code}
}

// onwards answers a moment and n further steps.
func (a moment) onwards(n int) moment {
	b := runOf(a.hart, a.memory, n)
	b.went += a.went
	return b
}

func (a moment) is(b moment) bool {
	return a.hart == b.hart && samePages(a.memory, b.memory) && a.went == b.went && a.code == b.code
}

// byRule answers n steps of a program that fills the page at 4096, or as many as go without a fault, by the document's words.
func byRule(h impl.Hart, m impl.Memory, program []impl.Instr, n int) moment {
	out := moment{hart: h, memory: m}
	for out.went < n {
		cells := cellsOf(out.memory)
		if out.code = faultByRule(cells, out.hart.Pc, 4, 4, true); out.code != impl.OK {
			return out
		}
		x := program[(out.hart.Pc-4096)/4]
		if out.hart, out.memory, out.code = execByRule(out.hart, out.memory, cells, x); out.code != impl.OK {
			return out
		}
		out.went++
	}
	return out
}

// dice tells numbers that follow from its first one.
type dice uint64

func (d *dice) below(n int) int {
	*d = *d*6364136223846793005 + 1442695040888963407
	return int(*d >> 33 % dice(n))
}

// anyProgram answers instructions that fill a page; most of them go on within it.
func anyProgram(d *dice) []impl.Instr {
	var list []impl.Instr
	for i := range 32 {
		r := hartRows[d.below(len(hartRows))]
		choice := rightInstrs(r)
		x := choice[d.below(len(choice))]
		switch r.shape.Form {
		case 2, 4:
			x.Imm = 4 * (d.below(32) - i)
		case 9:
			x = impl.Instr{Op: impl.OpAddi, Rd: 10, Rs1: 21, Imm: 8 * d.below(8)}
		}
		if r.name == "jalr" {
			x = impl.Instr{Op: impl.OpJalr, Rd: x.Rd, Rs1: 0, Imm: d.below(32)}
		}
		list = append(list, x)
	}
	return list
}

func wordsByBits(list []impl.Instr) string {
	out := ""
	for _, x := range list {
		out += littleByBits(wordByBits(hartRows[x.Op-1], x), 4)
	}
	return out
}

func TestRunsByTheDocumentsWords(t *testing.T) {
	d := dice(5)
	long := 0
	for range 400 {
		program := anyProgram(&d)
		m := laid(hartMemory(), 4096, wordsByBits(program))
		m.Pages = slices.DeleteFunc(m.Pages, func(p impl.Page) bool { return p.Perm&4 != 0 && p.Base != 4096 })
		h := placedHart(4096 + 4*d.below(32))
		for _, n := range []int{0, 1, 2, 3, 10, 40} {
			want := byRule(h, m, program, n)
			if got := runOf(h, m, n); !got.is(want) {
				t.Fatalf("RunHart of %d steps of %v at %d: %d, %d, not %d, %d, or another end", n, program, h.Pc, got.went, got.code, want.went, want.code)
			}
			long += want.went
		}
	}
	if long < 4000 {
		t.Error("the runs are too short to tell anything:", long)
	}
}

// selfProgram turns the number of its own third instruction, over and over.
const selfProgram = `lui x6 4096
lw x7 x6 8
addi x8 x8 1
lui x9 1048576
addw x7 x7 x9
sw x7 x6 8
jal x0 -16`

// partPrograms has programs that run for long, end with a fault, or change themselves, by their first address.
func partPrograms(t *testing.T) []moment {
	loop := sumMemory(assembled(t, "addi x5 x5 1\nsd x5 x2 -8\njal x0 -8"))
	self := laid(memoryOf(7, 4096), 4096, assembled(t, selfProgram))
	sum := sumMemory(assembled(t, sumProgram))
	fault := sumMemory(assembled(t, "addi x5 x5 1\naddi x6 x6 -1\nsb x5 x2 -1\nsb x5 x2 0\naddi x5 x5 1"))
	over := laid(memoryOf(4, 4096, 4224), 4096, assembled(t, strings.Repeat("addi x5 x5 1\n", 32)))
	over = laid(over, 4224, assembled(t, strings.Repeat("xor x6 x6 x5\n", 32)))
	var list []moment
	for _, m := range []impl.Memory{loop, self, sum, fault, over} {
		list = append(list, moment{hart: impl.NewHart(4096, 33280), memory: m})
	}
	return list
}

func TestAProgramThatChangesItself(t *testing.T) {
	m := laid(memoryOf(7, 4096), 4096, assembled(t, selfProgram))
	for rounds := range 20 {
		got := runOf(impl.NewHart(4096, 0), m, 2+5*rounds)
		want := rounds * (rounds + 1) / 2
		if got.hart.Regs[8] != want || got.went != 2+5*rounds || got.code != impl.OK {
			t.Errorf("%d rounds: %d, not %d, %d steps, code %d", rounds, got.hart.Regs[8], want, got.went, got.code)
		}
	}
}

func TestStepsInTwoPartsAreAsStepsAtOnce(t *testing.T) {
	for i, a := range partPrograms(t) {
		for _, n := range []int{0, 1, 2, 3, 4, 5, 7, 13, 40, 58, 59, 64, 65, 100, 137} {
			whole := a.onwards(n)
			for k := range n + 1 {
				first := a.onwards(k)
				parts := first.onwards(n - k)
				if k == n {
					parts.code = first.code
				}
				if !parts.is(whole) {
					t.Fatalf("program %d: %d steps and %d more: %d, %d, not %d, %d, or another end", i, k, n-k, parts.went, parts.code, whole.went, whole.code)
				}
			}
		}
	}
}

func TestARunIsItsStepsOneAfterTheOther(t *testing.T) {
	for i, a := range partPrograms(t) {
		at := a
		for n := 1; n <= 140; n++ {
			if at.code == impl.OK {
				at.hart, at.memory, at.code = impl.StepHart(at.hart, at.memory)
				at.went += oneIf(at.code == impl.OK)
			}
			if got := a.onwards(n); !got.is(at) || got.hart.Regs[0] != 0 {
				t.Fatalf("program %d: %d steps at once: %d, %d, not %d, %d, or another end", i, n, got.went, got.code, at.went, at.code)
			}
		}
	}
}

func TestRunsThatEndWithAFault(t *testing.T) {
	for i, want := range []struct{ went, pc, code int }{
		{1000, 4100, impl.OK}, {1000, 4096 + 8 + 4*3, impl.OK}, {58, 4096 + 13*4, impl.ErrEcall}, {3, 4108, impl.ErrPage}, {64, 4352, impl.ErrPage},
	} {
		got := partPrograms(t)[i].onwards(impl.MaxSteps)
		if got.went != want.went || got.hart.Pc != want.pc || got.code != want.code {
			t.Errorf("program %d: %d steps, pc %d, code %d", i, got.went, got.hart.Pc, got.code)
		}
	}
}

func TestStepsThatAreTooMany(t *testing.T) {
	for i, a := range partPrograms(t) {
		for _, n := range []int{-1, -2, -1000, impl.MaxSteps + 1, 2 * impl.MaxSteps, 1 << 32, 1<<32 + 1, leastInt, leastInt + 5, greatestInt} {
			if got := a.onwards(n); !got.is(moment{code: impl.ErrRange}) {
				t.Errorf("program %d: RunHart of %d steps: %d steps, code %d", i, n, got.went, got.code)
			}
		}
	}
	nowhere := impl.NewHart(-1, 0)
	if got := runOf(nowhere, impl.Memory{}, 0); !got.is(moment{hart: nowhere}) {
		t.Error("no step of no memory:", got)
	}
	if got := runOf(nowhere, impl.Memory{}, 1); !got.is(moment{hart: nowhere, code: impl.ErrAlign}) {
		t.Error("a step of no memory:", got)
	}
}

// hartChanges has calls that answer a memory, done and refused, of the memory of TestNoHartCallChangesItsMemory.
var hartChanges = map[string]func(m impl.Memory) impl.Memory{
	"ExecInstr":       func(m impl.Memory) impl.Memory { return execText(m, "addi x5 x5 1") },
	"ExecInstr store": func(m impl.Memory) impl.Memory { return execText(m, "sd x6 x6 0") },
	"ExecInstr fault": func(m impl.Memory) impl.Memory { return execText(m, "sd x6 x0 0") },
	"ExecInstr ecall": func(m impl.Memory) impl.Memory { return execText(m, "ecall") },
	"StepHart":        func(m impl.Memory) impl.Memory { return stepFrom(m, 4096) },
	"StepHart fault":  func(m impl.Memory) impl.Memory { return stepFrom(m, 4097) },
	"RunHart nothing": func(m impl.Memory) impl.Memory { return runOf(changeHart(4096), m, 0).memory },
	"RunHart many":    func(m impl.Memory) impl.Memory { return runOf(changeHart(4096), m, 1000).memory },
	"RunHart fault":   func(m impl.Memory) impl.Memory { return runOf(changeHart(4096+120), m, 1000).memory },
}

func changeHart(pc int) impl.Hart { return hartWith(pc, 16384+64) }

func execText(m impl.Memory, text string) impl.Memory {
	x, _ := impl.ReadInstr(text)
	_, got, _ := impl.ExecInstr(changeHart(4096), m, x)
	return got
}

func stepFrom(m impl.Memory, pc int) impl.Memory {
	_, got, _ := impl.StepHart(changeHart(pc), m)
	return got
}

func TestNoHartCallChangesItsMemory(t *testing.T) {
	code := assembled(t, "sd x6 x6 0\nsb x6 x6 9\naddi x7 x7 1\njal x0 -12")
	mark := impl.Page{Base: 7, Perm: 99, Data: "mark"}
	for what, change := range hartChanges {
		m := laid(laid(impl.Memory{Pages: []impl.Page{somePage(4096, 4), somePage(16384, 3), somePage(16512, 3)}}, 4096, code), 4096+120, code[:8])
		pages := append(m.Pages, mark, mark, mark)
		before := slices.Clone(pages)
		got := change(impl.Memory{Pages: pages[:3]})
		if !slices.Equal(pages, before) {
			t.Error(what, "changes what it was given")
		}
		if len(got.Pages) != 3 || !impl.MemoryOK(got) {
			t.Error(what, "answers", len(got.Pages), "pages")
		}
		kept := slices.Clone(got.Pages)
		for i := range pages {
			pages[i] = mark
		}
		if !slices.Equal(got.Pages, kept) {
			t.Error(what, "answers the pages that it was given")
		}
	}
}
