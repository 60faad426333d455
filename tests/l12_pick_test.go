package tests

import (
	"fmt"
	"slices"
	"testing"

	"loop.example/g00654/impl"
)

// pickByRule is the machine behind a pick of a thread that runs, by the document's words.
func pickByRule(m impl.Machine, i int) impl.Machine {
	h, memory, fault := impl.StepHart(m.Threads[i].Hart, m.Memory)
	switch fault {
	case impl.OK:
		return remade(m, func(m *impl.Machine) {
			m.Memory = memory
			if m.Threads[i].Hart = h; h.Pc == 0 {
				m.Threads[i].State = 2
			}
		})
	case impl.ErrEcall:
		return ecallByRule(m, i)
	}
	return stopped(m, i, fault)
}

// checkPick holds PickThread of a right machine against the document's words.
func checkPick(t *testing.T, what string, m impl.Machine, i int) impl.Machine {
	t.Helper()
	want, fault := m, turnByRule(m, i)
	if fault == impl.OK {
		want = pickByRule(m, i)
	}
	got, code := impl.PickThread(m, i)
	checkIs(t, fmt.Sprint(what, ": PickThread ", i), got, want, code, fault)
	return got
}

// standing answers a machine of hartMemory whose thread 1 is a processor that runs, with the instruction of a text at Pc.
func standing(h impl.Hart, text string) impl.Machine {
	m := impl.Machine{Memory: laid(hartMemory(), h.Pc, wordsOf(listed(text))), Threads: threadsOf(1, 1, 1), Table: mixedTable(), Shadows: mixedShadows()}
	m.Threads[1].Hart = h
	return m
}

func TestAPickDoesOneInstruction(t *testing.T) {
	for _, r := range hartRows {
		list := rightInstrs(r)
		for n := 0; n < len(list); n += 1 + len(list)/60 {
			pc := runPlaces[n%len(runPlaces)]
			m := standing(placedHart(pc), "addi x0 x0 0")
			m.Memory = laid(m.Memory, pc, wordsOf(list[n:n+1]))
			m.Threads[1].Hart.Regs[17], m.Threads[1].Hart.Regs[10] = n%13-1, n%17-1
			checkPick(t, r.name, m, 1)
			m.Threads[1].Hart = numberHart(pc, n)
			checkPick(t, r.name, m, 1)
		}
	}
	got, code := impl.PickThread(standing(hartWith(4096, 16384+64), "sd x5 x6 -8"), 1)
	want := standing(hartWith(4100, 16384+64), "sd x5 x6 -8")
	want.Memory = laid(laid(want.Memory, 4096, wordsOf(listed("sd x5 x6 -8"))), 16384+56, littleByBits(16384+64, 8))
	want.Memory = laid(want.Memory, 4100, hartMemory().Pages[1].Data[4:8])
	checkIs(t, "a store", got, want, code, impl.OK)
}

// With each code that StepHart tells the thread stops with it, and all else is as it was.
func TestPicksThatStopTheThread(t *testing.T) {
	codes := map[int]int{}
	stops := func(what string, m impl.Machine, fault int) {
		t.Helper()
		got, code := impl.PickThread(m, 1)
		checkIs(t, what, got, stopped(m, 1, fault), code, impl.OK)
		codes[fault]++
	}
	for _, f := range faultTexts {
		h := numberHart(4096, 5)
		h.Regs[2], h.Regs[9] = 8192, f.address
		if f.code != impl.ErrEcall {
			stops(f.text, standing(h, f.text), f.code)
		}
	}
	m := standing(placedHart(4096), "addi x0 x0 0")
	m.Memory = laid(laid(m.Memory, 4100, "\x00\x00\x00\x00"), 4104, "\xff\xff\xff\xff")
	for pc, fault := range map[int]int{
		4097: impl.ErrAlign, 4098: impl.ErrAlign, 16386: impl.ErrAlign, -1: impl.ErrAlign, leastInt + 1: impl.ErrAlign, greatestInt: impl.ErrAlign,
		8192: impl.ErrPage, 4092: impl.ErrPage, -4: impl.ErrPage, behind: impl.ErrPage, 1<<32 + 4096: impl.ErrPage, leastInt: impl.ErrPage, greatestInt - 3: impl.ErrPage,
		16384: impl.ErrPerm, 20480: impl.ErrPerm, 32768: impl.ErrPerm, 4100: impl.ErrCode, 4104: impl.ErrCode,
	} {
		stops(fmt.Sprint("pc ", pc), rethreaded(m, 1, func(x *impl.Thread) { x.Hart.Pc = pc }), fault)
	}
	for _, fault := range []int{impl.ErrAlign, impl.ErrPage, impl.ErrPerm, impl.ErrStack, impl.ErrBreak, impl.ErrCode} {
		if codes[fault] == 0 {
			t.Error("no pick stops with", impl.CodeWord(fault))
		}
	}
}

// A thread that has stopped, or is done, is picked no more.
func TestNoPickOfThreadsThatDoNotRun(t *testing.T) {
	for _, text := range []string{"ebreak", "ld x5 x0 1", "jal x0 -4096", "ecall"} {
		m := standing(hartWith(4096, 0), text)
		m.Threads[1].Hart.Regs[17] = impl.SysExit
		behind := checkPick(t, text, m, 1)
		for _, call := range []func(m impl.Machine, i int) (impl.Machine, int){impl.PickThread, impl.EcallOf} {
			got, code := call(behind, 1)
			checkIs(t, text+" again", got, behind, code, impl.ErrDone)
		}
		checkPick(t, text, behind, 0)
	}
}

// Of ErrEcall the environment does what EcallOf answers.
func TestPicksOfCallsOfTheEnvironment(t *testing.T) {
	for _, pc := range []int{0, 124, 4096, 4224, lastBase + 124} {
		for service := -1; service <= 12; service++ {
			for _, a := range []int{-1, 0, 1, 5, 9, 11, leastInt} {
				m := asking(standing(hartWith(pc, 7), "ecall"), 1, service, a, 9, 12)
				if service == 3 && a < 0 {
					m.Threads[1].Out = dataValues(outLimit)
				}
				got, code := impl.PickThread(m, 1)
				want, wantCode := impl.EcallOf(m, 1)
				checkIs(t, fmt.Sprint("ecall of ", service, " at ", pc), got, want, code, wantCode)
				checkPick(t, fmt.Sprint("ecall of ", service, " at ", pc), m, 1)
			}
		}
	}
	// At 0 a thread that goes on, exits or stops is not done by its Pc.
	for service, state := range map[int]int{impl.SysYield: impl.TsRun, impl.SysExit: impl.TsDone, 0: impl.TsTrap, impl.SysSelf: impl.TsRun} {
		got, code := impl.PickThread(asking(standing(hartWith(0, 7), "ecall"), 1, service, 0, 0, 0), 1)
		if x := got.Threads[1]; code != impl.OK || x.State != state || x.Hart.Pc != 4*oneIf(state == impl.TsRun) {
			t.Errorf("ecall of %d at 0: %v, %d", service, x, code)
		}
	}
}

// Behind an instruction a thread whose Pc is 0 is done, and no other.
func TestPcOfZeroBehindAnInstruction(t *testing.T) {
	for _, v := range []struct {
		pc    int
		text  string
		first int
		state int
		want  int
	}{
		{4096, "jal x0 -4096", 5, impl.TsDone, 0}, {4096, "jal x1 -4096", 5, impl.TsDone, 0}, {4096, "jal x0 -4092", 5, impl.TsRun, 4}, {4096, "beq x0 x0 -4096", 5, impl.TsDone, 0}, {4096, "bne x0 x0 -4096", 5, impl.TsRun, 4100},
		{4096, "jalr x0 x1 0", 0, impl.TsDone, 0}, {4096, "jalr x0 x1 0", 1, impl.TsDone, 0}, {4096, "jalr x0 x1 1", 0, impl.TsDone, 0}, {4096, "jalr x0 x1 -8", 8, impl.TsDone, 0}, {4096, "jalr x0 x1 0", 2, impl.TsRun, 2}, {4096, "jalr x0 x1 -1", 0, impl.TsRun, -2},
		{4096, "jalr x1 x1 0", 0, impl.TsDone, 0}, {4096, "jalr x0 x1 0", leastInt, impl.TsRun, leastInt}, {4, "jal x0 -4", 5, impl.TsDone, 0}, {0, "jal x0 0", 5, impl.TsDone, 0}, {0, "beq x0 x0 0", 5, impl.TsDone, 0},
		{0, "addi x5 x5 1", 5, impl.TsRun, 4}, {0, "ebreak", 5, impl.TsTrap, 0}, {0, "lb x5 x0 1", 5, impl.TsTrap, 0}, {0, "bne x0 x0 8", 5, impl.TsRun, 4}, {lastBase, "jalr x0 x0 0", 5, impl.TsDone, 0},
	} {
		m := standing(hartWith(v.pc, 7), v.text)
		m.Threads[1].Hart.Regs[1] = v.first
		got := checkPick(t, v.text, m, 1)
		if x := got.Threads[1]; x.State != v.state || x.Hart.Pc != v.want || (x.Trap == 0) != (v.state != impl.TsTrap) {
			t.Errorf("%s at %d: state %d, pc %d, trap %d", v.text, v.pc, x.State, x.Hart.Pc, x.Trap)
		}
	}
	// A thread that stands at 0 runs on, and stops if no page is there.
	m := impl.Machine{Memory: memoryByRule(mixedImage()), Threads: threadsOf(1)}
	m.Threads[0].Hart.Pc = 0
	got, code := impl.PickThread(m, 0)
	checkIs(t, "no page at 0", got, stopped(m, 0, impl.ErrPage), code, impl.OK)
}

// A thread of an image that comes back from its first function is done, with its stack as it was.
func TestAFirstFunctionThatComesBack(t *testing.T) {
	m, code := impl.NewMachine(imageOf(functionOf(48, listed("addi x5 x5 1\nsd x5 x2 8\nld x6 x2 8")...)))
	for n := range 8 {
		if code != impl.OK || m.Threads[0].State != impl.TsRun || m.Threads[0].Hart.Pc != 4096+4*n {
			t.Fatal(n, machineString(m), code)
		}
		checkPick(t, "a first function", m, 0)
		m, code = impl.PickThread(m, 0)
	}
	want := impl.Hart{}
	want.Regs[2], want.Regs[5], want.Regs[6] = 33280, 1, 1
	if x := m.Threads[0]; code != impl.OK || x.State != impl.TsDone || x.Hart != want || x.Trap != 0 || len(x.Out) != 0 {
		t.Error("behind the epilogue:", machineString(m), code)
	}
}

// Machines of any memory, any registers, and programs of any instructions.
func TestPicksByTheDocumentsWords(t *testing.T) {
	d := dice(44)
	states, traps := map[int]int{}, map[int]int{}
	for range 1000 {
		m := anyMachine(&d)
		m.Memory = hartMemory()
		program := anyProgram(&d)
		for range 1 + d.below(12) {
			program[d.below(32)] = []impl.Instr{{Op: impl.OpEcall}, {Op: impl.OpEcall}, {Op: impl.OpEbreak}}[d.below(3)]
		}
		m.Memory = laid(m.Memory, 4096, wordsOf(program))
		for i := range m.Threads {
			if d.below(4) > 0 {
				m.Threads[i].Hart = placedHart(4096 + 4*d.below(32))
				m.Threads[i].Hart.Regs[17] = d.below(12)
			}
		}
		for range 12 {
			i := d.below(len(m.Threads)+2) - 1
			m = checkPick(t, "any machine", m, i)
			if i >= 0 && i < len(m.Threads) {
				states[m.Threads[i].State]++
				traps[m.Threads[i].Trap]++
			}
		}
		if t.Failed() {
			return
		}
	}
	if states[1] < 1000 || states[2] < 500 || states[3] < 500 || len(traps) < 8 {
		t.Error("the dice tell", states, traps)
	}
}

// lentMachine answers the machine with something behind the end of each of its lists, and a call that tells whether all of it stands.
func lentMachine(m impl.Machine) (impl.Machine, func() bool) {
	pages, pagesStand := lentList(m.Memory.Pages, impl.Page{Base: 7, Perm: 99, Data: "behind"})
	table, tableStands := lentList(m.Table, impl.Entry{Name: "behind"})
	shadows, shadowsStand := lentList(m.Shadows, impl.Shadow{Object: -7, Id: 77, Value: 777})
	threads := slices.Concat(m.Threads, slices.Repeat([]impl.Thread{{State: 9, Trap: 99}}, 5))
	stands := []func() bool{pagesStand, tableStands, shadowsStand}
	for i := range m.Threads {
		out, outStands := lentList(m.Threads[i].Out, -77)
		threads[i].Out = out
		stands = append(stands, outStands)
	}
	kept := slices.Clone(threads)
	stands = append(stands, func() bool { return slices.EqualFunc(threads, kept, sameThreads) })
	return impl.Machine{Memory: impl.Memory{Pages: pages}, Threads: threads[:len(m.Threads)], Table: table, Shadows: shadows}, func() bool {
		return !slices.ContainsFunc(stands, func(stand func() bool) bool { return !stand() })
	}
}

// overwrite writes into each list of a machine, and behind its end.
func overwrite(m impl.Machine) {
	for i := range m.Threads {
		out := m.Threads[i].Out
		for n := range out {
			out[n] = -88
		}
		_ = append(out, -89)
	}
	clear(m.Memory.Pages)
	clear(m.Table)
	for n := range m.Shadows {
		m.Shadows[n] = impl.Shadow{Object: 88, Id: 300}
	}
	_, _, _ = append(m.Memory.Pages, impl.Page{Base: 8}), append(m.Table, impl.Entry{Name: "written"}), append(m.Shadows, impl.Shadow{Id: 301})
	_ = append(m.Threads, impl.Thread{State: 88})
	clear(m.Threads)
}

// lentCases has machines that are right, and some that are not, with threads that ask for each service.
func lentCases() []impl.Machine {
	list := rightMachines()
	for _, m := range wrongMachines() {
		list = append(list, m)
	}
	for service := -1; service <= 12; service++ {
		for n, text := range []string{"ecall", "sd x5 x6 0", "jal x0 -4096"} {
			m := asking(standing(hartWith(4096, 16384+64), text), 1, service, []int{1, 5, leastInt}[n], 9, 12)
			m.Threads[1].Out = dataValues(10 * n)
			list = append(list, m, remade(m, func(m *impl.Machine) { m.Threads = m.Threads[:2] }))
		}
	}
	return list
}

// No call of the layer turns what it was given, nor what lies behind it; each answers the same again, in memory of its own.
func TestNoMachineCallChangesWhatItWasGiven(t *testing.T) {
	for _, m := range lentCases() {
		given, stands := lentMachine(m)
		for name, call := range machineCalls {
			for _, i := range []int{0, 1, 2, 3, 7, -1, 41} {
				first, n, code := call(given, i)
				other, _, _ := call(given, i)
				kept := copiedMachine(first)
				overwrite(other)
				if !stands() || !sameMachines(first, kept) {
					t.Fatalf("%s of %d: memory is shared with %s", name, i, machineString(m))
				}
				overwrite(first)
				again, againN, againCode := call(given, i)
				if !stands() || !sameMachines(again, kept) || n != againN || code != againCode {
					t.Fatalf("%s of %d: another answer at the second time of %s", name, i, machineString(m))
				}
			}
		}
		same, running := impl.SameMachine(given, given), fmt.Sprint(impl.RunningOf(given))
		if ok := impl.MachineOK(given); !stands() || ok != same || impl.MachineOK(given) != ok || fmt.Sprint(impl.RunningOf(given)) != running {
			t.Fatalf("a machine that is asked is changed: %s", machineString(m))
		}
	}
}

// Each thread has an Out of its own: what one puts out is not behind another's.
func TestNoTwoThreadsShareAnOut(t *testing.T) {
	shared := make([]int, 3, 20)
	m := impl.Machine{Memory: hartMemory(), Threads: threadsOf(1, 1, 1)}
	for i := range m.Threads {
		m.Threads[i].Out = shared[:i+1]
		m.Threads[i].Hart.Regs[17], m.Threads[i].Hart.Regs[10] = impl.SysOut, 10*i+5
	}
	for i := range m.Threads {
		got, code := impl.EcallOf(m, i)
		checkIs(t, "a shared list", got, ecallByRule(m, i), code, impl.OK)
		for j := range got.Threads {
			got.Threads[j].Out = append(got.Threads[j].Out, 1000+j)
		}
		for j, x := range got.Threads {
			if want := append(slices.Repeat([]int{0}, j+1), append([]int{10*j + 5}[:oneIf(i == j)], 1000+j)...); !slices.Equal(x.Out, want) {
				t.Errorf("thread %d behind thread %d: %v, not %v", j, i, x.Out, want)
			}
		}
	}
	if !slices.Equal(shared[:20], make([]int, 20)) {
		t.Error("a call writes behind an end:", shared[:20])
	}
}
