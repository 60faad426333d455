package tests

import (
	"fmt"
	"slices"
	"testing"

	"loop.example/g00654/impl"
)

// Numbers of no service of the environment.
var wrongServices = []int{0, 11, 12, 16, 255, 257, -1, -2, -10, 1 << 32, 1<<32 + 1, leastInt, leastInt + 1, leastInt + 3, greatestInt, greatestInt - 1}

// asking answers a copy of a machine whose thread i asks for a service.
func asking(m impl.Machine, i, service, a, b, c int) impl.Machine {
	return rethreaded(m, i, func(x *impl.Thread) {
		x.Hart.Regs[17], x.Hart.Regs[10], x.Hart.Regs[11], x.Hart.Regs[12] = service, a, b, c
	})
}

// stopped answers a copy of a machine whose thread i has stopped with a Trap, and is as it was otherwise.
func stopped(m impl.Machine, i, trap int) impl.Machine {
	return rethreaded(m, i, func(x *impl.Thread) { x.State, x.Trap = 3, trap })
}

// toldOn answers a copy of a machine whose thread i has v in register 10 and is 4 further on.
func toldOn(m impl.Machine, i, v int) impl.Machine {
	return rethreaded(m, i, func(x *impl.Thread) { x.Hart.Regs[10], x.Hart.Pc = v, wrapped(x.Hart.Pc, 4) })
}

// spawnedByRule is the machine behind SysSpawn, by the document's words.
func spawnedByRule(m impl.Machine, i int) impl.Machine {
	asker := m.Threads[i].Hart
	for n, e := range m.Table {
		if n != asker.Regs[10] || e.Kind != 1 || len(m.Threads) == 4 {
			continue
		}
		number := len(m.Threads)
		born := impl.Thread{State: 1}
		born.Hart.Pc, born.Hart.Regs[2], born.Hart.Regs[10] = e.At, []int{33280, 34304, 35328, 36352}[number], asker.Regs[11]
		return remade(toldOn(m, i, number), func(m *impl.Machine) { m.Threads = append(m.Threads, born) })
	}
	return toldOn(m, i, -1)
}

// shadowsByService is the machine behind one of the last five services, by the document's words.
func shadowsByService(m impl.Machine, i int) impl.Machine {
	regs := m.Threads[i].Hart.Regs
	names := []string{"GetShadow", "AllocShadow", "GetOrAlloc", "PutShadow", "FreeShadow"}
	for _, c := range shadowCalls() {
		if c.name != names[regs[17]-6] {
			continue
		}
		told := c.answerByRule(m.Shadows, shadowAsk{regs[10], regs[11], regs[12]})
		if told.code != impl.OK {
			told.number = 0
		}
		return remade(toldOn(m, i, told.number), func(m *impl.Machine) {
			m.Threads[i].Hart.Regs[11] = told.code
			if regs[17] != 6 && told.code == impl.OK {
				m.Shadows = told.list
			}
		})
	}
	return m
}

// ecallByRule is the machine behind a call of the environment by a thread that runs, by the document's words.
func ecallByRule(m impl.Machine, i int) impl.Machine {
	x := m.Threads[i]
	switch service := x.Hart.Regs[17]; {
	case service == 1:
		return rethreaded(m, i, func(x *impl.Thread) { x.State = 2 })
	case service == 2:
		return toldOn(m, i, x.Hart.Regs[10])
	case service == 3 && len(x.Out) == 32:
		return stopped(m, i, impl.ErrFull)
	case service == 3:
		return rethreaded(toldOn(m, i, x.Hart.Regs[10]), i, func(x *impl.Thread) { x.Out = append(x.Out, x.Hart.Regs[10]) })
	case service == 4:
		return spawnedByRule(m, i)
	case service == 5:
		return toldOn(m, i, i)
	case service >= 6 && service <= 10:
		return shadowsByService(m, i)
	}
	return stopped(m, i, impl.ErrEcall)
}

// turnByRule is the code with which a thread's turn leaves a right machine as it was, OK if there is none.
func turnByRule(m impl.Machine, i int) int {
	switch {
	case i < 0 || i >= len(m.Threads):
		return impl.ErrNone
	case m.Threads[i].State != 1:
		return impl.ErrDone
	}
	return impl.OK
}

func checkIs(t *testing.T, what string, got, want impl.Machine, code, wantCode int) {
	t.Helper()
	if !sameMachines(got, want) || code != wantCode || !impl.MachineOK(got) {
		t.Errorf("%s: %s, not %s; or other bytes:\n%s\nnot\n%s", what, impl.CodeWord(code), impl.CodeWord(wantCode), machineString(got), machineString(want))
	}
}

// checkEcall holds EcallOf of a right machine against the document's words.
func checkEcall(t *testing.T, what string, m impl.Machine, i int) {
	t.Helper()
	want, fault := m, turnByRule(m, i)
	if fault == impl.OK {
		want = ecallByRule(m, i)
	}
	got, code := impl.EcallOf(m, i)
	checkIs(t, fmt.Sprint(what, ": EcallOf ", i), got, want, code, fault)
}

// environmentMachine has room for a thread, a table of functions and data, three shadow variables, and a thread 2 that runs at 4100.
func environmentMachine() impl.Machine {
	m := impl.Machine{Memory: memoryByRule(mixedImage()), Threads: threadsOf(1, 2, 1), Table: mixedTable()}
	m.Shadows = []impl.Shadow{{Object: -5, Id: 3, Value: 33}, {Object: 7, Id: 0, Value: 70}, {Object: 7, Id: 255}}
	m.Threads[2].Hart = impl.NewHart(4100, 35328)
	return m
}

// Registers 10 and 11 and Pc of thread 2 of environmentMachine behind a service; its Pc is 4100 ahead of it.
func TestServicesThatAreKnown(t *testing.T) {
	m := environmentMachine()
	for _, v := range []struct{ service, a, b, c, first, second, pc, state, trap int }{
		{impl.SysExit, 5, 6, 7, 5, 6, 4100, impl.TsDone, 0},
		{impl.SysYield, 5, 6, 7, 5, 6, 4104, impl.TsRun, 0},
		{impl.SysOut, 5, 6, 7, 5, 6, 4104, impl.TsRun, 0},
		{impl.SysSpawn, 1, 6, 7, 3, 6, 4104, impl.TsRun, 0}, {impl.SysSpawn, 9, 6, 7, 3, 6, 4104, impl.TsRun, 0},
		{impl.SysSpawn, 0, 6, 7, -1, 6, 4104, impl.TsRun, 0}, {impl.SysSpawn, 10, 6, 7, -1, 6, 4104, impl.TsRun, 0}, {impl.SysSpawn, 11, 6, 7, -1, 6, 4104, impl.TsRun, 0}, {impl.SysSpawn, -1, 6, 7, -1, 6, 4104, impl.TsRun, 0},
		{impl.SysSelf, 5, 6, 7, 2, 6, 4104, impl.TsRun, 0},
		{impl.SysGet, 7, 0, 9, 70, impl.OK, 4104, impl.TsRun, 0}, {impl.SysGet, 7, 255, 9, 0, impl.OK, 4104, impl.TsRun, 0}, {impl.SysGet, 7, 3, 9, 0, impl.ErrNone, 4104, impl.TsRun, 0}, {impl.SysGet, 7, 256, 9, 0, impl.ErrRange, 4104, impl.TsRun, 0},
		{impl.SysAlloc, 7, 1, 9, 0, impl.OK, 4104, impl.TsRun, 0}, {impl.SysAlloc, 7, 0, 9, 0, impl.ErrClash, 4104, impl.TsRun, 0}, {impl.SysAlloc, 7, -1, 9, 0, impl.ErrRange, 4104, impl.TsRun, 0},
		{impl.SysGetOr, -5, 3, 9, 33, impl.OK, 4104, impl.TsRun, 0}, {impl.SysGetOr, -5, 4, 9, 9, impl.OK, 4104, impl.TsRun, 0}, {impl.SysGetOr, 7, 255, 9, 0, impl.OK, 4104, impl.TsRun, 0}, {impl.SysGetOr, -5, 256, 9, 0, impl.ErrRange, 4104, impl.TsRun, 0},
		{impl.SysPut, -5, 3, 9, 0, impl.OK, 4104, impl.TsRun, 0}, {impl.SysPut, -5, 4, 9, 0, impl.ErrNone, 4104, impl.TsRun, 0}, {impl.SysPut, -5, leastInt, 9, 0, impl.ErrRange, 4104, impl.TsRun, 0},
		{impl.SysFree, -5, 3, 9, 0, impl.OK, 4104, impl.TsRun, 0}, {impl.SysFree, -5, 2, 9, 0, impl.ErrNone, 4104, impl.TsRun, 0}, {impl.SysFree, -5, greatestInt, 9, 0, impl.ErrRange, 4104, impl.TsRun, 0},
		{0, 5, 6, 7, 5, 6, 4100, impl.TsTrap, impl.ErrEcall}, {11, 5, 6, 7, 5, 6, 4100, impl.TsTrap, impl.ErrEcall}, {-3, 5, 6, 7, 5, 6, 4100, impl.TsTrap, impl.ErrEcall}, {leastInt, 5, 6, 7, 5, 6, 4100, impl.TsTrap, impl.ErrEcall}, {greatestInt, 5, 6, 7, 5, 6, 4100, impl.TsTrap, impl.ErrEcall},
	} {
		got, code := impl.EcallOf(asking(m, 2, v.service, v.a, v.b, v.c), 2)
		if code != impl.OK || len(got.Threads) < 3 {
			t.Errorf("%+v: EcallOf = %s, %d", v, machineString(got), code)
			continue
		}
		x := got.Threads[2]
		want := impl.NewHart(v.pc, 35328)
		want.Regs[17], want.Regs[10], want.Regs[11], want.Regs[12] = v.service, v.first, v.second, v.c
		if x.Hart != want || x.State != v.state || x.Trap != v.trap {
			t.Errorf("%+v: EcallOf makes of thread 2 %v", v, x)
		}
		checkEcall(t, fmt.Sprintf("%+v", v), asking(m, 2, v.service, v.a, v.b, v.c), 2)
	}
}

// The shadow variables behind each of the last five services.
func TestShadowsOfServices(t *testing.T) {
	m := environmentMachine()
	first, second, third := m.Shadows[0], m.Shadows[1], m.Shadows[2]
	for _, v := range []struct {
		service, a, b, c int
		want             []impl.Shadow
	}{
		{impl.SysGet, -5, 3, 9, m.Shadows}, {impl.SysGet, -5, 4, 9, m.Shadows}, {impl.SysGet, -5, 256, 9, m.Shadows},
		{impl.SysAlloc, -5, 4, 9, []impl.Shadow{first, {Object: -5, Id: 4, Value: 9}, second, third}}, {impl.SysAlloc, -5, 3, 9, m.Shadows}, {impl.SysAlloc, -5, -1, 9, m.Shadows},
		{impl.SysGetOr, 8, 0, -9, []impl.Shadow{first, second, third, {Object: 8, Id: 0, Value: -9}}}, {impl.SysGetOr, 7, 0, -9, m.Shadows}, {impl.SysGetOr, 7, 1000, -9, m.Shadows},
		{impl.SysPut, 7, 0, 5, []impl.Shadow{first, {Object: 7, Id: 0, Value: 5}, third}}, {impl.SysPut, 7, 1, 5, m.Shadows}, {impl.SysPut, 7, 256, 5, m.Shadows},
		{impl.SysFree, 7, 0, 5, []impl.Shadow{first, third}}, {impl.SysFree, 7, 1, 5, m.Shadows}, {impl.SysFree, 7, -256, 5, m.Shadows},
	} {
		for _, i := range []int{0, 2} {
			got, code := impl.EcallOf(asking(m, i, v.service, v.a, v.b, v.c), i)
			if code != impl.OK || !slices.Equal(got.Shadows, v.want) {
				t.Errorf("%v: the shadow variables are %v behind thread %d, %d", v, got.Shadows, i, code)
			}
		}
	}
	// Of a full list, and of one with room for one.
	for _, n := range []int{shadowLimit, shadowLimit - 1} {
		full := remade(m, func(m *impl.Machine) { m.Shadows = severalShadows(n) })
		for service := impl.SysGet; service <= impl.SysFree; service++ {
			for _, ask := range asksOf(full.Shadows) {
				checkEcall(t, "a full list", asking(full, 0, service, ask.object, ask.id, ask.v), 0)
			}
		}
	}
	for _, service := range []int{impl.SysAlloc, impl.SysGetOr} {
		full := remade(m, func(m *impl.Machine) { m.Shadows = oneId(7, shadowLimit) })
		got, code := impl.EcallOf(asking(full, 2, service, 5, 9, 77), 2)
		if x := got.Threads[2].Hart; code != impl.OK || x.Regs[10] != 0 || x.Regs[11] != impl.ErrFull || x.Pc != 4104 || !slices.Equal(got.Shadows, full.Shadows) {
			t.Errorf("service %d of a full list: %s, %d", service, machineString(got), code)
		}
	}
}

// Each service of each thread, with each of some arguments, whatever the table and the shadow variables are.
func TestServicesByTheDocumentsWords(t *testing.T) {
	for n, m := range rightMachines() {
		for i := range m.Threads {
			for k, a := range append([]int{-1, 0, 1, 2, 6, 7, 63, 64, 65, 16384}, wildInts...) {
				for service := -1; service <= 12; service++ {
					b, c := []int{0, 7, 255, 256, -1, leastInt, 3, 9}[k%8], someValues[k%len(someValues)]
					checkEcall(t, fmt.Sprint("machine ", n, ", service ", service), asking(m, i, service, a, b, c), i)
				}
			}
		}
	}
	for _, service := range wrongServices {
		m := asking(environmentMachine(), 2, service, 1, 2, 3)
		checkEcall(t, "no service", m, 2)
		got, code := impl.EcallOf(m, 2)
		checkIs(t, fmt.Sprint("no service: ", service), got, stopped(m, 2, impl.ErrEcall), code, impl.OK)
	}
	d := dice(43)
	told := map[int]int{}
	for range 20000 {
		m := anyMachine(&d)
		i := d.below(len(m.Threads))
		checkEcall(t, "any machine", m, i)
		told[m.Threads[i].Hart.Regs[17]]++
	}
	for service := -1; service <= 11; service++ {
		if told[service] < 1000 {
			t.Error("service", service, "is asked for", told[service], "times")
		}
	}
}

// What lies beside register 10 and Out stays, into no values, and into as many as there may be.
func TestWhatIsPutOut(t *testing.T) {
	for _, i := range []int{0, 2} {
		for n := range outLimit + 1 {
			for _, v := range append(slices.Clone(someInts), leastInt, greatestInt) {
				m := asking(environmentMachine(), i, impl.SysOut, v, 2, 3)
				m.Threads[i].Out = dataValues(n)
				got, code := impl.EcallOf(m, i)
				if n == outLimit {
					checkIs(t, "out of all that may be", got, stopped(m, i, impl.ErrFull), code, impl.OK)
					continue
				}
				want := rethreaded(toldOn(m, i, v), i, func(x *impl.Thread) { x.Out = append(x.Out, v) })
				checkIs(t, fmt.Sprint("out behind ", n), got, want, code, impl.OK)
			}
		}
	}
}

func dataValues(n int) []int {
	var list []int
	for i := range n {
		list = append(list, 1000-7*i*i)
	}
	return list
}

// checkBorn asks for a thread of each entry: number is what is told of it, with -1 there is none.
func checkBorn(t *testing.T, m impl.Machine, i, entry, given, number int) {
	t.Helper()
	m = asking(m, i, impl.SysSpawn, entry, given, -3)
	got, code := impl.EcallOf(m, i)
	want := toldOn(m, i, number)
	if number >= 0 {
		h := impl.Hart{Pc: m.Table[entry].At}
		h.Regs[2], h.Regs[10] = 33280+1024*number, given
		want.Threads = append(want.Threads, impl.Thread{State: impl.TsRun, Hart: h})
	}
	checkIs(t, fmt.Sprint("spawn of entry ", entry, " beside ", len(m.Threads), " threads"), got, want, code, impl.OK)
}

func TestThreadsThatAreSpawned(t *testing.T) {
	for _, states := range [][]int{{1}, {1, 1}, {1, 2}, {3, 1}, {1, 1, 1}, {2, 3, 1}, {1, 1, 1, 1}, {1, 2, 3, 2}, {3, 3, 2, 1}} {
		for _, table := range [][]impl.Entry{mixedTable(), severalEntries(tableLimit), systemTable(), tableOfImage(mixedImage()), nil} {
			m := impl.Machine{Memory: memoryByRule(mixedImage()), Threads: threadsOf(states...), Table: table}
			for i, state := range states {
				if state != 1 {
					continue
				}
				for entry, e := range table {
					number := len(states)
					if e.Kind != 1 || len(states) == threadLimit {
						number = -1
					}
					checkBorn(t, m, i, entry, someValues[entry%len(someValues)], number)
				}
				for _, entry := range []int{-1, -2, -64, len(table), len(table) + 1, tableLimit, 4096, 8192, 1 << 32, 1<<32 + 1, -1 << 32, leastInt, leastInt + 1, leastInt + 2, greatestInt, greatestInt - 1} {
					checkBorn(t, m, i, entry, 5, -1)
				}
			}
		}
	}
}

// Pc wraps as registers do; Pc of 0 behind a call of the environment is no end.
func TestPcBehindServices(t *testing.T) {
	for _, pc := range []int{0, 1, 2, 4096, -1, -2, -3, -4, -5, -8, greatestInt, greatestInt - 1, greatestInt - 3, greatestInt - 4, leastInt, leastInt + 1, leastInt + 3, 1 << 32} {
		for service := -1; service <= 12; service++ {
			m := asking(environmentMachine(), 0, service, 1, 2, 3)
			m.Threads[0].Hart.Pc = pc
			checkEcall(t, fmt.Sprint("pc ", pc), m, 0)
			got, _ := impl.EcallOf(m, 0)
			if x, goes := got.Threads[0], service >= 2 && service <= 10; goes && (x.State != impl.TsRun || x.Hart.Pc != wrapped(pc, 4)) || !goes && (x.State == impl.TsRun || x.Hart.Pc != pc) {
				t.Errorf("service %d at %d: pc %d, state %d", service, pc, x.Hart.Pc, x.State)
			}
		}
	}
	m := asking(environmentMachine(), 0, impl.SysYield, 0, 0, 0)
	m.Threads[0].Hart.Pc = -4
	if got, code := impl.EcallOf(m, 0); code != impl.OK || got.Threads[0].Hart.Pc != 0 || got.Threads[0].State != impl.TsRun {
		t.Errorf("a call of the environment to 0: %v, %d", got.Threads[0], code)
	}
	m.Threads[0].Hart.Pc = greatestInt - 3
	if got, code := impl.EcallOf(m, 0); code != impl.OK || got.Threads[0].Hart.Pc != leastInt {
		t.Errorf("a call of the environment at the end of int: %v, %d", got.Threads[0], code)
	}
}

// What is given and told goes through registers 10, 11, 12 and 17 alone.
func TestServicesLeaveOtherRegisters(t *testing.T) {
	for service := -1; service <= 12; service++ {
		for _, r := range []int{1, 2, 5, 9, 13, 16, 18, 31} {
			m := asking(environmentMachine(), 2, service, 7, 1, 3)
			want, _ := impl.EcallOf(m, 2)
			m.Threads[2].Hart.Regs[r] = -123456789
			want.Threads[2].Hart.Regs[r] = -123456789
			got, code := impl.EcallOf(m, 2)
			checkIs(t, fmt.Sprint("service ", service, ", register ", r), got, want, code, impl.OK)
		}
	}
}

// noNumbers has numbers that are no thread's of a machine.
func noNumbers(m impl.Machine) []int {
	return []int{len(m.Threads), len(m.Threads) + 1, threadLimit, 5, -1, -2, -4, 256, 1 << 32, 1<<32 + 1, leastInt, leastInt + 1, greatestInt}
}

func TestTurnsThatAreNone(t *testing.T) {
	for n, m := range rightMachines() {
		for name, call := range map[string]func(m impl.Machine, i int) (impl.Machine, int){"EcallOf": impl.EcallOf, "PickThread": impl.PickThread} {
			for _, i := range noNumbers(m) {
				got, code := call(m, i)
				checkIs(t, fmt.Sprint(name, " ", i, " of machine ", n), got, m, code, impl.ErrNone)
			}
			for i, x := range m.Threads {
				if x.State != 1 {
					got, code := call(m, i)
					checkIs(t, fmt.Sprint(name, " ", i, " of machine ", n), got, m, code, impl.ErrDone)
				}
			}
		}
	}
}
