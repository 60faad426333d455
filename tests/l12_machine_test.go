package tests

import (
	"fmt"
	"slices"
	"strings"
	"testing"

	"loop.example/g00654/impl"
)

const (
	threadLimit = 4
	outLimit    = 32
	roundLimit  = 40
)

// someThread answers a right thread of a State, no two numbers of which are alike.
func someThread(n, state int) impl.Thread {
	x := impl.Thread{State: state, Hart: numberHart(4096+8*n, 5*n)}
	for v := range 3 * n {
		x.Out = append(x.Out, 100*n-v*v)
	}
	if state == 3 {
		x.Trap = 12 + n
	}
	return x
}

// threadsOf answers a thread of each State.
func threadsOf(states ...int) []impl.Thread {
	var list []impl.Thread
	for n, state := range states {
		list = append(list, someThread(n, state))
	}
	return list
}

// mixedMachine has mixedImage loaded, threads that run, are done and have stopped, and some shadow variables.
func mixedMachine() impl.Machine {
	return impl.Machine{Memory: memoryByRule(mixedImage()), Threads: threadsOf(1, 2, 3, 1), Table: tableOfImage(mixedImage()), Shadows: mixedShadows()}
}

// copiedMachine answers the machine with lists of its own.
func copiedMachine(m impl.Machine) impl.Machine {
	out := impl.Machine{Memory: impl.Memory{Pages: slices.Clone(m.Memory.Pages)}, Threads: slices.Clone(m.Threads), Table: slices.Clone(m.Table), Shadows: slices.Clone(m.Shadows)}
	for i := range out.Threads {
		out.Threads[i].Out = slices.Clone(out.Threads[i].Out)
	}
	return out
}

// remade answers a changed copy of a machine.
func remade(m impl.Machine, change func(m *impl.Machine)) impl.Machine {
	m = copiedMachine(m)
	change(&m)
	return m
}

// rethreaded answers a copy of a machine whose thread i is changed.
func rethreaded(m impl.Machine, i int, change func(x *impl.Thread)) impl.Machine {
	return remade(m, func(m *impl.Machine) { change(&m.Threads[i]) })
}

func sameThreads(a, b impl.Thread) bool {
	return a.State == b.State && a.Hart == b.Hart && slices.Equal(a.Out, b.Out) && a.Trap == b.Trap
}

// sameMachines tells whether both have the same lists, right or not.
func sameMachines(a, b impl.Machine) bool {
	return samePages(a.Memory, b.Memory) && slices.EqualFunc(a.Threads, b.Threads, sameThreads) && slices.Equal(a.Table, b.Table) && slices.Equal(a.Shadows, b.Shadows)
}

// emptyMachine tells whether all in the machine is zero.
func emptyMachine(m impl.Machine) bool { return sameMachines(m, impl.Machine{}) }

// machineString tells what a machine has but its memory's bytes.
func machineString(m impl.Machine) string {
	out := fmt.Sprint(len(m.Memory.Pages), " pages, ", len(m.Table), " entries, shadow variables ", m.Shadows[:min(len(m.Shadows), 20)])
	for _, x := range m.Threads[:min(len(m.Threads), 5)] {
		out += fmt.Sprintf("\n state %d, pc %d, registers %v, out %.300s, trap %d", x.State, x.Hart.Pc, x.Hart.Regs, fmt.Sprint(x.Out), x.Trap)
	}
	return out
}

// newByRule is the machine of an image, by the document's words.
func newByRule(im impl.Image) impl.Machine {
	first := impl.Thread{State: 1}
	first.Hart.Pc, first.Hart.Regs[2] = symbolAddress(im.Symbols[0]), 33280
	return impl.Machine{Memory: memoryByRule(im), Threads: []impl.Thread{first}, Table: tableOfImage(im)}
}

// rightMachines has machines of images and others, of one to four threads of all States.
func rightMachines() []impl.Machine {
	list := []impl.Machine{mixedMachine(), newByRule(mixedImage()), newByRule(fullImage()), newByRule(rightImages()[0])}
	for _, states := range [][]int{{1}, {2}, {3}, {1, 1}, {2, 1}, {3, 1, 2}, {1, 1, 1}, {2, 2, 2, 2}, {1, 1, 1, 1}, {3, 3, 3, 1}} {
		list = append(list, impl.Machine{Threads: threadsOf(states...)})
		list = append(list, impl.Machine{Memory: hartMemory(), Threads: threadsOf(states...), Table: mixedTable(), Shadows: severalShadows(shadowLimit)})
	}
	full := impl.Machine{Memory: fullMemory(), Threads: threadsOf(1, 3, 2, 1), Table: severalEntries(tableLimit), Shadows: oneObject(-1, 5)}
	for i := range full.Threads {
		full.Threads[i].Out = slices.Repeat([]int{leastInt, greatestInt}, outLimit/2)
	}
	return append(list, full)
}

// machineSpoiler makes of a machine one that is not right.
type machineSpoiler struct {
	what  string
	spoil func(m *impl.Machine)
}

// threadSpoilers has each way in which thread i may be wrong.
func threadSpoilers(i int) []machineSpoiler {
	var list []machineSpoiler
	add := func(what string, spoil func(x *impl.Thread)) {
		list = append(list, machineSpoiler{fmt.Sprint(what, " of thread ", i), func(m *impl.Machine) { spoil(&m.Threads[i]) }})
	}
	for _, state := range []int{0, 4, -1, -2, -3, 5, 257, 1<<32 + 1, leastInt, leastInt + 1, greatestInt} {
		add(fmt.Sprint("state ", state), func(x *impl.Thread) { x.State, x.Trap = state, 0 })
		add(fmt.Sprint("state with a trap ", state), func(x *impl.Thread) { x.State, x.Trap = state, 12 })
	}
	for _, trap := range []int{1, 31, 32, 12, -1, 1 << 32, leastInt, greatestInt} {
		add(fmt.Sprint("run with trap ", trap), func(x *impl.Thread) { x.State, x.Trap = 1, trap })
		add(fmt.Sprint("done with trap ", trap), func(x *impl.Thread) { x.State, x.Trap = 2, trap })
	}
	for _, trap := range []int{0, 32, 33, -1, -12, 256, 1 << 32, 1<<32 + 12, leastInt, leastInt + 12, greatestInt} {
		add(fmt.Sprint("trap ", trap), func(x *impl.Thread) { x.State, x.Trap = 3, trap })
	}
	for _, v := range []int{1, -1, 4096, 1 << 32, leastInt, greatestInt} {
		add(fmt.Sprint("register 0 with ", v), func(x *impl.Thread) { x.Hart.Regs[0] = v })
	}
	for _, n := range []int{33, 34, 64, 256, impl.MaxList, impl.MaxList + 1, impl.MaxText + 1} {
		add(fmt.Sprint(n, " values in out"), func(x *impl.Thread) { x.Out = make([]int, n) })
	}
	return list
}

// wrongMachines has a machine of each fault, all else of which is mixedMachine's.
func wrongMachines() map[string]impl.Machine {
	wrong := map[string]impl.Machine{
		"nothing":            {},
		"no thread":          remade(mixedMachine(), func(m *impl.Machine) { m.Threads = nil }),
		"an empty list":      remade(mixedMachine(), func(m *impl.Machine) { m.Threads = []impl.Thread{} }),
		"five threads":       remade(mixedMachine(), func(m *impl.Machine) { m.Threads = threadsOf(1, 1, 1, 1, 1) }),
		"many threads":       remade(mixedMachine(), func(m *impl.Machine) { m.Threads = slices.Repeat(threadsOf(1, 2), 4000) }),
		"an empty thread":    remade(mixedMachine(), func(m *impl.Machine) { m.Threads = make([]impl.Thread, 1) }),
		"a table of 4097":    remade(mixedMachine(), func(m *impl.Machine) { m.Table = severalEntries(impl.MaxList + 1) }),
		"a list of 4097":     remade(mixedMachine(), func(m *impl.Machine) { m.Shadows = severalShadows(impl.MaxList + 1) }),
		"nothing right":      {Memory: memoryOf(16, 3), Threads: make([]impl.Thread, 9), Table: make([]impl.Entry, 2), Shadows: make([]impl.Shadow, 2)},
		"a memory and table": {Memory: memoryOf(16, 0), Threads: threadsOf(1), Table: make([]impl.Entry, 1)},
	}
	for i := range mixedMachine().Threads {
		for _, s := range threadSpoilers(i) {
			wrong[s.what] = remade(mixedMachine(), s.spoil)
		}
	}
	return wrong
}

// spoiledParts has machines of which just memory, table or shadow variables are wrong, in each way.
func spoiledParts() map[string]impl.Machine {
	wrong := map[string]impl.Machine{}
	for what, memory := range wrongMemories() {
		wrong["memory: "+what] = remade(mixedMachine(), func(m *impl.Machine) { m.Memory = memory })
	}
	for what, table := range wrongTables() {
		wrong["table: "+what] = remade(mixedMachine(), func(m *impl.Machine) { m.Table = table })
	}
	for what, list := range wrongShadows() {
		wrong["shadow variables: "+what] = remade(mixedMachine(), func(m *impl.Machine) { m.Shadows = list })
	}
	return wrong
}

// threadByRule tells whether a machine may have the thread, by the document's words.
func threadByRule(x impl.Thread) bool {
	runs, trapped := x.State == 1 || x.State == 2, x.State == 3
	return (runs && x.Trap == 0 || trapped && x.Trap > 0 && x.Trap < 32) && x.Hart.Regs[0] == 0 && len(x.Out) <= 32
}

// machineByRule tells whether a machine is right, by the document's words.
func machineByRule(m impl.Machine) bool {
	return impl.MemoryOK(m.Memory) && tableByRule(m.Table) && shadowsByRule(m.Shadows) && len(m.Threads) >= 1 && len(m.Threads) <= 4 &&
		!slices.ContainsFunc(m.Threads, func(x impl.Thread) bool { return !threadByRule(x) })
}

func checkMachine(t *testing.T, what string, m impl.Machine, right bool) {
	t.Helper()
	if impl.MachineOK(m) != right {
		t.Errorf("%s: MachineOK = %v of %s", what, !right, machineString(m))
	}
}

func TestMachineConstants(t *testing.T) {
	got := []int{impl.MaxOut, impl.MaxRounds, impl.MaxThreads, impl.TsRun, impl.TsDone, impl.TsTrap, impl.SysExit, impl.SysYield, impl.SysOut, impl.SysSpawn, impl.SysSelf, impl.SysGet, impl.SysAlloc, impl.SysGetOr, impl.SysPut, impl.SysFree}
	if !slices.Equal(got, []int{outLimit, roundLimit, threadLimit, 1, 2, 3, 1, 2, 3, 4, 5, 6, 7, 8, 9, 10}) {
		t.Error("constants", got)
	}
}

func checkNew(t *testing.T, what string, im impl.Image) {
	t.Helper()
	m, code := impl.NewMachine(im)
	if code != impl.OK || !sameMachines(m, newByRule(im)) || !impl.MachineOK(m) {
		t.Errorf("%s: NewMachine = %s, %d", what, machineString(m), code)
	}
}

func TestMachinesOfImages(t *testing.T) {
	for i, im := range rightImages() {
		checkNew(t, fmt.Sprint("right image ", i), im)
		// Whatever is written into one, the next one is as ever.
		m, _ := impl.NewMachine(im)
		m.Threads[0].State = 9
		clear(m.Memory.Pages)
		clear(m.Table)
		_ = append(m.Table, impl.Entry{})
		checkNew(t, fmt.Sprint("right image ", i, " again"), im)
	}
	d := dice(40)
	for range 500 {
		checkNew(t, "any image", anyRightImage(&d))
	}
	m, code := impl.NewMachine(mixedImage())
	x := m.Threads[0]
	if code != impl.OK || len(m.Threads) != 1 || x.State != impl.TsRun || x.Hart != impl.NewHart(4096, 33280) || len(x.Out) != 0 || x.Trap != 0 || len(m.Shadows) != 0 {
		t.Error("NewMachine of the mixed image:", machineString(m), code)
	}
}

func TestMachinesOfWrongImages(t *testing.T) {
	for what, im := range wrongImages() {
		if m, code := impl.NewMachine(im); !emptyMachine(m) || code != impl.ErrBad {
			t.Errorf("%s: NewMachine = %s, %d", what, machineString(m), code)
		}
	}
	d := dice(41)
	for range 500 {
		im := anyRightImage(&d)
		im.Symbols = slices.Clone(im.Symbols)
		if spoilSymbol(&d, &im); impl.ImageOK(im) {
			continue
		}
		if m, code := impl.NewMachine(im); !emptyMachine(m) || code != impl.ErrBad {
			t.Errorf("NewMachine of %s = %s, %d", imageString(im), machineString(m), code)
		}
	}
}

func TestMachinesThatAreKnown(t *testing.T) {
	for i, m := range rightMachines() {
		checkMachine(t, fmt.Sprint("right machine ", i), m, true)
	}
	for what, m := range wrongMachines() {
		checkMachine(t, what, m, false)
	}
	for what, m := range spoiledParts() {
		checkMachine(t, what, m, false)
	}
	for n := range 12 {
		several := slices.Repeat([]impl.Thread{someThread(1, 1)}, n)
		checkMachine(t, fmt.Sprint(n, " threads"), remade(mixedMachine(), func(m *impl.Machine) { m.Threads = several }), n >= 1 && n <= threadLimit)
	}
	for _, part := range []func(m *impl.Machine){
		func(m *impl.Machine) { m.Memory = impl.Memory{} }, func(m *impl.Machine) { m.Table = nil }, func(m *impl.Machine) { m.Shadows = nil },
		func(m *impl.Machine) { m.Memory = memoryOf(8, 0) }, func(m *impl.Machine) { m.Table = mixedTable() }, func(m *impl.Machine) { m.Shadows = oneId(255, 16) },
	} {
		checkMachine(t, "another part that is right", remade(mixedMachine(), part), true)
	}
}

// Each State with each Trap, of each thread.
func TestStatesAndTraps(t *testing.T) {
	traps := append(slices.Clone(someInts), leastInt, greatestInt, 1<<32+1)
	for trap := -40; trap <= 80; trap++ {
		traps = append(traps, trap)
	}
	for i := range mixedMachine().Threads {
		for _, state := range append([]int{0, 1, 2, 3, 4, 5, 6, 7, -1, -2, -3, 256, 258, 1<<32 + 3, leastInt, leastInt + 3}, wildInts...) {
			for _, trap := range traps {
				m := rethreaded(mixedMachine(), i, func(x *impl.Thread) { x.State, x.Trap = state, trap })
				right := state == 3 && trap >= 1 && trap <= 31 || (state == 1 || state == 2) && trap == 0
				checkMachine(t, fmt.Sprint("state ", state, " with trap ", trap), m, right)
			}
		}
		for n := range 70 {
			m := rethreaded(mixedMachine(), i, func(x *impl.Thread) { x.Out = make([]int, n) })
			checkMachine(t, fmt.Sprint(n, " values"), m, n <= outLimit)
		}
		for _, v := range someInts {
			for r := range 32 {
				m := rethreaded(mixedMachine(), i, func(x *impl.Thread) { x.Hart.Regs[r] = v })
				checkMachine(t, fmt.Sprint(v, " in register ", r), m, r > 0 || v == 0)
			}
			checkMachine(t, fmt.Sprint("pc ", v), rethreaded(mixedMachine(), i, func(x *impl.Thread) { x.Hart.Pc = v }), true)
			checkMachine(t, fmt.Sprint(v, " in out"), rethreaded(mixedMachine(), i, func(x *impl.Thread) { x.Out = slices.Repeat([]int{v}, outLimit) }), true)
		}
	}
}

func TestAnyMachineByTheDocumentsWords(t *testing.T) {
	d := dice(42)
	right := 0
	for range 4000 {
		m := anyMachine(&d)
		for range d.below(3) {
			spoilMachine(&d, &m)
		}
		checkMachine(t, "any machine", m, machineByRule(m))
		right += oneIf(machineByRule(m))
	}
	if right < 1000 || right > 3500 {
		t.Error(right, "machines of 4000 are right")
	}
}

// anyMachine answers a machine that is right, with drawn registers, tables and shadow variables.
func anyMachine(d *dice) impl.Machine {
	m := impl.Machine{Memory: memoryByRule(mixedImage()), Table: anyTable(d), Shadows: anyShadows(d, 30)}
	if d.below(2) == 0 {
		m.Memory = hartMemory()
	}
	for n := range 1 + d.below(4) {
		x := someThread(n, []int{1, 1, 1, 2, 3}[d.below(5)])
		x.Hart.Regs[17], x.Hart.Regs[10], x.Hart.Regs[11], x.Hart.Regs[12] = d.below(13)-1, drawnObject(d), drawnId(d), someValues[d.below(len(someValues))]
		if d.below(2) == 0 {
			x.Hart.Regs[10] = d.below(len(m.Table)+3) - 1
		}
		if d.below(3) == 0 {
			x.Hart.Regs[11] = wrongIds[d.below(len(wrongIds))]
		}
		x.Hart.Pc = append([]int{0, 4096, 4100}, somePcs...)[d.below(3+len(somePcs))]
		x.Out = slices.Repeat([]int{n}, []int{0, 1, 31, 32}[d.below(4)])
		m.Threads = append(m.Threads, x)
	}
	return m
}

// spoilMachine changes something of a machine, in most cases what makes it wrong.
func spoilMachine(d *dice, m *impl.Machine) {
	x := &m.Threads[d.below(len(m.Threads))]
	switch d.below(8) {
	case 0:
		x.State = d.below(6) - 1
	case 1:
		x.Trap = d.below(40) - 4
	case 2:
		x.Hart.Regs[d.below(2)] = d.below(2)
	case 3:
		x.Out = make([]int, 30+d.below(5))
	case 4:
		m.Threads = append(m.Threads, threadsOf(1, 1)[:d.below(3)]...)
	case 5:
		spoilShadows(d, m.Shadows)
	case 6:
		if len(m.Table) > 0 {
			spoilEntry(d, &m.Table[d.below(len(m.Table))])
		}
	case 7:
		m.Memory.Pages[d.below(len(m.Memory.Pages))].Perm = d.below(20)
	}
}

func checkRunning(t *testing.T, what string, m impl.Machine, want ...int) {
	t.Helper()
	got, code := impl.RunningOf(m)
	if !slices.Equal(got, want) || code != impl.OK {
		t.Errorf("%s: RunningOf = %v, %d, not %v", what, got, code, want)
	}
}

func TestWhoRuns(t *testing.T) {
	// Each choice of States, of one thread to four.
	for choice := range 3 + 9 + 27 + 81 {
		count, rest := 1, choice
		for size := 3; rest >= size; size *= 3 {
			rest, count = rest-size, count+1
		}
		var states, want []int
		for i := range count {
			states = append(states, 1+rest%3)
			if rest%3 == 0 {
				want = append(want, i)
			}
			rest /= 3
		}
		checkRunning(t, fmt.Sprint(states), impl.Machine{Memory: hartMemory(), Threads: threadsOf(states...)}, want...)
	}
	checkRunning(t, "the mixed machine", mixedMachine(), 0, 3)
	checkRunning(t, "none", impl.Machine{Threads: threadsOf(2, 3, 3, 2)})
	checkRunning(t, "all", impl.Machine{Threads: threadsOf(1, 1, 1, 1)}, 0, 1, 2, 3)
	// What is written into an answer is not seen in the next one.
	list, _ := impl.RunningOf(mixedMachine())
	list[0] = 7
	checkRunning(t, "again", mixedMachine(), 0, 3)
	for what, m := range wrongMachines() {
		if list, code := impl.RunningOf(m); len(list) != 0 || code != impl.ErrBad {
			t.Errorf("%s: RunningOf = %v, %d", what, list, code)
		}
	}
}

// machineChanges has each one thing that may be another one; all that they make of mixedMachine is right.
func machineChanges() map[string]func(m *impl.Machine) {
	changes := map[string]func(m *impl.Machine){
		"one page less":            func(m *impl.Machine) { m.Memory.Pages = m.Memory.Pages[:35] },
		"one page more":            func(m *impl.Machine) { m.Memory.Pages = append(m.Memory.Pages, somePage(lastBase, 3)) },
		"another base":             func(m *impl.Machine) { m.Memory.Pages[35].Base += 128 },
		"no memory":                func(m *impl.Machine) { m.Memory = impl.Memory{} },
		"one entry less":           func(m *impl.Machine) { m.Table = m.Table[:6] },
		"one entry more":           func(m *impl.Machine) { m.Table = append(m.Table, mixedTable()[0]) },
		"two entries turned":       func(m *impl.Machine) { m.Table[0], m.Table[2] = m.Table[2], m.Table[0] },
		"no table":                 func(m *impl.Machine) { m.Table = nil },
		"one shadow variable less": func(m *impl.Machine) { m.Shadows = m.Shadows[1:] },
		"the last one less":        func(m *impl.Machine) { m.Shadows = m.Shadows[:13] },
		"another object":           func(m *impl.Machine) { m.Shadows[4].Object-- },
		"another Id":               func(m *impl.Machine) { m.Shadows[4].Id++ },
		"another value":            func(m *impl.Machine) { m.Shadows[4].Value++ },
		"no shadow variables":      func(m *impl.Machine) { m.Shadows = nil },
		"one thread less":          func(m *impl.Machine) { m.Threads = m.Threads[:3] },
		"the first thread less":    func(m *impl.Machine) { m.Threads = m.Threads[1:] },
		"two threads turned":       func(m *impl.Machine) { m.Threads[0], m.Threads[3] = m.Threads[3], m.Threads[0] },
		"the name of an entry":     func(m *impl.Machine) { m.Table[6].Name = "f4" },
		"the kind of an entry":     func(m *impl.Machine) { m.Table[5].Kind, m.Table[5].Frame = 1, 16 },
		"the place of an entry":    func(m *impl.Machine) { m.Table[0].At += 4 },
		"the size of an entry":     func(m *impl.Machine) { m.Table[6].Size++ },
		"the frame of an entry":    func(m *impl.Machine) { m.Table[0].Frame = 64 },
		"the owner of an entry":    func(m *impl.Machine) { m.Table[1].Owner = 6 },
		"state and trap":           func(m *impl.Machine) { m.Threads[0].State, m.Threads[0].Trap = 3, 31 },
		"a state":                  func(m *impl.Machine) { m.Threads[1].State = 1 },
		"a trap":                   func(m *impl.Machine) { m.Threads[2].Trap++ },
	}
	for _, n := range []int{0, 8, 16, 35} {
		for _, at := range []int{0, 64, 127} {
			changes[fmt.Sprint("byte ", at, " of page ", n)] = func(m *impl.Machine) {
				p := &m.Memory.Pages[n]
				p.Data = withByte(p.Data, at, int(p.Data[at])^1)
			}
		}
		changes[fmt.Sprint("the Perm of page ", n)] = func(m *impl.Machine) { m.Memory.Pages[n].Perm ^= 4 }
	}
	for i, x := range mixedMachine().Threads {
		for r := 1; r < 32; r++ {
			changes[fmt.Sprint("register ", r, " of thread ", i)] = func(m *impl.Machine) { m.Threads[i].Hart.Regs[r] ^= leastInt }
		}
		changes[fmt.Sprint("the Pc of thread ", i)] = func(m *impl.Machine) { m.Threads[i].Hart.Pc++ }
		changes[fmt.Sprint("one more out of thread ", i)] = func(m *impl.Machine) { m.Threads[i].Out = append(m.Threads[i].Out, 0) }
		for n := range x.Out {
			changes[fmt.Sprint("value ", n, " of thread ", i)] = func(m *impl.Machine) { m.Threads[i].Out[n]-- }
		}
	}
	return changes
}

func checkSameMachines(t *testing.T, what string, a, b impl.Machine, same bool) {
	t.Helper()
	if impl.SameMachine(a, b) != same || impl.SameMachine(b, a) != same {
		t.Errorf("%s: SameMachine is not %v of %s\nand %s", what, same, machineString(a), machineString(b))
	}
}

func TestMachinesThatAreAlike(t *testing.T) {
	right := rightMachines()
	for i, a := range right {
		for j, b := range right {
			checkSameMachines(t, fmt.Sprint(i, " and ", j), a, copiedMachine(b), i == j)
		}
	}
	for what, change := range machineChanges() {
		other := remade(mixedMachine(), change)
		checkMachine(t, what, other, true)
		checkSameMachines(t, what, mixedMachine(), other, false)
		checkSameMachines(t, what, other, copiedMachine(other), true)
	}
	// An empty list and none are the same.
	empty := impl.Machine{Memory: impl.Memory{Pages: []impl.Page{}}, Threads: threadsOf(1), Table: []impl.Entry{}, Shadows: []impl.Shadow{}}
	empty.Threads[0].Out = []int{}
	checkSameMachines(t, "empty lists", empty, impl.Machine{Threads: threadsOf(1)}, true)
}

func TestWrongMachinesAreNotAlike(t *testing.T) {
	for what, m := range wrongMachines() {
		checkSameMachines(t, what, m, m, false)
		checkSameMachines(t, what, m, copiedMachine(m), false)
		checkSameMachines(t, what, m, mixedMachine(), false)
	}
	for what, m := range spoiledParts() {
		checkSameMachines(t, what, m, copiedMachine(m), false)
		checkSameMachines(t, what, m, mixedMachine(), false)
	}
}

// machineCalls has the calls that answer a machine, each of a thread or of as many rounds.
var machineCalls = map[string]func(m impl.Machine, i int) (impl.Machine, int, int){
	"EcallOf": func(m impl.Machine, i int) (impl.Machine, int, int) {
		got, code := impl.EcallOf(m, i)
		return got, 0, code
	},
	"PickThread": func(m impl.Machine, i int) (impl.Machine, int, int) {
		got, code := impl.PickThread(m, i)
		return got, 0, code
	},
	"RunRounds": impl.RunRounds,
}

// badMachineCalls answers which calls with a code do not answer ErrBad alone.
func badMachineCalls(m impl.Machine, i int) string {
	var wrong []string
	for name, call := range machineCalls {
		if got, n, code := call(m, i); !emptyMachine(got) || n != 0 || code != impl.ErrBad {
			wrong = append(wrong, name)
		}
	}
	return strings.Join(wrong, ", ")
}

// ErrBad of the machine comes ahead of ErrNone, ErrDone and ErrRange.
func TestWrongMachinesComeFirst(t *testing.T) {
	numbers := []int{0, 1, 2, 3, 4, -1, 40, 41, leastInt, greatestInt}
	for what, m := range wrongMachines() {
		for _, i := range numbers {
			if wrong := badMachineCalls(m, i); wrong != "" {
				t.Errorf("%s, %d: not ErrBad alone: %s", what, i, wrong)
			}
		}
	}
	parts := 0
	for what, m := range spoiledParts() {
		if wrong := badMachineCalls(m, numbers[parts%len(numbers)]); wrong != "" {
			t.Errorf("%s: not ErrBad alone: %s", what, wrong)
		}
		parts++
	}
}
