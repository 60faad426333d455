package tests

import (
	"fmt"
	"slices"
	"testing"

	"loop.example/g00654/impl"
)

// ran is what RunRounds answers.
type ran struct {
	machine impl.Machine
	picks   int
	code    int
}

func roundsOf(m impl.Machine, n int) ran {
	got, picks, code := impl.RunRounds(m, n)
	return ran{got, picks, code}
}

func (a ran) is(b ran) bool {
	return sameMachines(a.machine, b.machine) && a.picks == b.picks && a.code == b.code
}

// roundByRule answers a round, pick by pick, by the document's words.
func roundByRule(m impl.Machine) (impl.Machine, int) {
	picks := 0
	for i := 0; i < len(m.Threads); i++ {
		if m.Threads[i].State == 1 {
			m, _ = impl.PickThread(m, i)
			picks++
		}
	}
	return m, picks
}

// checkRounds holds RunRounds of each of some numbers of rounds against its picks one after the other.
func checkRounds(t *testing.T, what string, m impl.Machine, rounds ...int) {
	t.Helper()
	at, picks := m, 0
	for n := range slices.Max(rounds) + 1 {
		if slices.Contains(rounds, n) {
			if got := roundsOf(m, n); !got.is(ran{at, picks, impl.OK}) {
				t.Fatalf("%s: RunRounds of %d: %d, %d, not %d, or other bytes:\n%s\nnot\n%s", what, n, got.picks, got.code, picks, machineString(got.machine), machineString(at))
			}
		}
		more := 0
		at, more = roundByRule(at)
		picks += more
	}
}

// machineOf answers the machine of an image of functions with the frame 16 and these bodies.
func machineOf(t *testing.T, bodies ...string) impl.Machine {
	t.Helper()
	var functions []built
	for _, body := range bodies {
		functions = append(functions, functionOf(16, listed(body)...))
	}
	m, code := impl.NewMachine(withData(imageOf(functions...), 16, [2]int{0, 8}, [2]int{8, 8}))
	if code != impl.OK {
		t.Fatal("no machine of", bodies)
	}
	return m
}

// spawning asks for a thread of entry 1, with 5 in its register 10.
const spawning = "addi x17 x0 4\naddi x10 x0 1\naddi x11 x0 5\necall"

func TestAThreadIsPickedInTheRoundInWhichItCame(t *testing.T) {
	m := machineOf(t, spawning, "addi x17 x0 3\necall")
	for n, picks := range []int{0, 1, 2, 3, 4, 5, 7, 9, 11, 13, 14, 15, 16, 16, 16} {
		got := roundsOf(m, n)
		if got.picks != picks || got.code != impl.OK || len(got.machine.Threads) != 1+oneIf(n >= 6) {
			t.Fatalf("%d rounds: %d picks, %d, %s", n, got.picks, got.code, machineString(got.machine))
		}
	}
	// In round 6 thread 0 asks, and the new thread goes on to its second instruction.
	got := roundsOf(m, 6).machine
	want := impl.NewHart(m.Table[1].At+4, 34304-16)
	want.Regs[10] = 5
	if x := got.Threads[1]; x.Hart != want || x.State != impl.TsRun || got.Threads[0].Hart.Regs[10] != 1 {
		t.Error("behind round 6:", machineString(got))
	}
	got = roundsOf(m, roundLimit).machine
	if x := got.Threads; x[0].State != impl.TsDone || x[1].State != impl.TsDone || !slices.Equal(x[1].Out, []int{5}) || len(x[0].Out) != 0 {
		t.Error("at the end:", machineString(got))
	}
}

// A thread that spawns itself anew: three come, the fourth is refused, and each has its own stack and number.
func TestThreadsThatSpawnOneAfterTheOther(t *testing.T) {
	m := machineOf(t, "addi x17 x0 4\naddi x10 x0 0\necall\naddi x17 x0 3\necall\naddi x17 x0 5\necall\naddi x17 x0 3\necall")
	checkRounds(t, "a row of threads", m, 0, 1, 4, 5, 6, 13, 20, 39, 40)
	got := roundsOf(m, roundLimit)
	for i, want := range [][]int{{1, 0}, {2, 1}, {3, 2}, {-1, 3}} {
		x := got.machine.Threads[i]
		if x.State != impl.TsDone || !slices.Equal(x.Out, want) || x.Hart.Regs[2] != 33280+1024*i {
			t.Errorf("thread %d: %v", i, x)
		}
	}
	if got.picks != 4*14 || got.code != impl.OK {
		t.Error("picks:", got.picks, got.code)
	}
}

// Who stops, exits or comes back is picked no more; the others go on.
func TestRoundsPassOverThreadsThatDoNotRun(t *testing.T) {
	for _, v := range []struct {
		body               string
		state, trap, picks int
	}{
		{"ebreak", impl.TsTrap, impl.ErrBreak, 3}, {"lb x5 x0 0", impl.TsTrap, impl.ErrPage, 3}, {"ecall", impl.TsTrap, impl.ErrEcall, 3}, {"addi x17 x0 1\necall", impl.TsDone, 0, 4},
		{"addi x5 x0 1", impl.TsDone, 0, 6}, {"addi x17 x0 3\necall\njal x0 -4", impl.TsTrap, impl.ErrFull, 3 + 2*outLimit + 1}, {"lui x5 32768\nlb x5 x5 0", impl.TsTrap, impl.ErrStack, 4},
	} {
		m := machineOf(t, "jal x0 0", v.body)
		m.Threads = append(m.Threads, m.Threads[0], m.Threads[0], m.Threads[0])
		for i, top := range []int{33280, 34304, 35328, 36352} {
			m.Threads[i].Hart.Regs[2] = top
		}
		m.Threads[1].Hart.Pc, m.Threads[2].Hart.Pc = m.Table[1].At, m.Table[1].At
		checkRounds(t, v.body, m, 0, 1, 2, 3, 4, 5, 6, 40)
		first := roundsOf(m, roundLimit)
		whole := roundsOf(first.machine, roundLimit)
		for i := 1; i < 3; i++ {
			if x := whole.machine.Threads[i]; x.State != v.state || x.Trap != v.trap {
				t.Errorf("%s: thread %d is %v", v.body, i, x)
			}
		}
		if all := first.picks + whole.picks; all != 4*roundLimit+2*v.picks || whole.code != impl.OK {
			t.Errorf("%s: %d picks, not %d", v.body, all, 4*roundLimit+2*v.picks)
		}
		checkRunning(t, v.body, whole.machine, 0, 3)
	}
	// Where nobody runs, rounds do nothing.
	for _, states := range [][]int{{2}, {3}, {2, 3, 2, 3}} {
		m := impl.Machine{Memory: hartMemory(), Threads: threadsOf(states...)}
		for _, n := range []int{0, 1, 7, roundLimit} {
			if got := roundsOf(m, n); !got.is(ran{m, 0, impl.OK}) {
				t.Errorf("%v: %d picks, %d", states, got.picks, got.code)
			}
		}
	}
}

func TestHowManyRounds(t *testing.T) {
	for i, m := range rightMachines() {
		for _, n := range []int{-1, -2, -40, roundLimit + 1, roundLimit + 2, 80, 1000, 1 << 32, 1<<32 + 1, -1 << 32, leastInt, leastInt + 1, leastInt + 40, greatestInt} {
			if got := roundsOf(m, n); !got.is(ran{code: impl.ErrRange}) {
				t.Errorf("machine %d: RunRounds of %d: %d, %s, %s", i, n, got.picks, impl.CodeWord(got.code), machineString(got.machine))
			}
		}
		if got := roundsOf(m, 0); !got.is(ran{m, 0, impl.OK}) {
			t.Errorf("machine %d: no round: %d, %d", i, got.picks, got.code)
		}
		if i < 12 {
			checkRounds(t, fmt.Sprint("machine ", i), m, 0, 1, 2, 39, roundLimit)
		}
	}
	m := machineOf(t, "jal x0 0")
	for n := range roundLimit + 1 {
		if got := roundsOf(m, n); got.picks != n || got.code != impl.OK {
			t.Errorf("RunRounds of %d: %d, %d", n, got.picks, got.code)
		}
	}
}

// bodyWords is how many instructions each body of a drawn image has.
const bodyWords = 35

// anyService answers instructions that ask the environment for something.
func anyService(d *dice) []impl.Instr {
	services := []int{2, 3, 3, 4, 4, 4, 5, 6, 7, 8, 9, 10, 6, 7, 8, 9, 10, 1, 0, 11, -1}
	id := []int{0, 1, 7, 255, 256, -1}[d.below(6)]
	values := []int{services[d.below(len(services))], d.below(8) - 1, id, d.below(9) - 4}
	if d.below(40) > 0 && (values[0] < 2 || values[0] > 10) {
		values[0] = 3
	}
	var list []impl.Instr
	for n, r := range []int{17, 10, 11, 12} {
		list = append(list, impl.Instr{Op: impl.OpAddi, Rd: r, Imm: values[n]})
	}
	return append(list, impl.Instr{Op: impl.OpEcall})
}

// anyPartOf answers a part of a body of function own of count functions, whose next instruction is number at of the function.
func anyPartOf(d *dice, frame, own, count, at int) []impl.Instr {
	switch d.below(12) {
	case 0, 1, 2, 3:
		return anyService(d)
	case 4, 5:
		// A call of a later one comes back, unless somebody calls for ever.
		to := own + 1 + d.below(count)
		if to >= count && d.below(5) > 0 {
			return nil
		}
		return []impl.Instr{{Op: impl.OpJal, Rd: 1, Imm: 4 * ((to%count-own)*(bodyWords+5) - at)}}
	case 6, 7:
		return loop(d, calmRun(d, frame, 1+d.below(3)))
	case 8:
		if d.below(12) == 0 {
			return []impl.Instr{{Op: []int{impl.OpEbreak, impl.OpLd, impl.OpSd}[d.below(3)]}}
		}
	}
	return calmRun(d, frame, 1+d.below(4))
}

// anyThreadImage answers an image whose functions ask the environment, call one another, go in loops, and write to data and stack.
func anyThreadImage(d *dice) impl.Image {
	count := 1 + d.below(6)
	var functions []built
	for own := range count {
		frame := allFrames[d.below(4)]
		// An ecall of a calm run asks for what register 17 holds then.
		body := []impl.Instr{named("lui x21 16384"), named("addi x21 x21 128"), named("addi x17 x0 2")}
		for range 30 {
			part := anyPartOf(d, frame, own, count, 2+len(body))
			if len(body)+len(part) <= bodyWords {
				body = append(body, part...)
			}
		}
		for len(body) < bodyWords {
			body = append(body, named("addi x5 x5 1"))
		}
		functions = append(functions, functionOf(frame, body...))
	}
	return withData(imageOf(functions...), dataLimit, [2]int{0, 8}, [2]int{16, 16})
}

// withoutThread answers what a pick of thread i must leave: all other threads, and each page that is no data's and not of its stack.
func withoutThread(m impl.Machine, i int) ([]impl.Thread, []impl.Page) {
	threads := slices.Delete(slices.Clone(m.Threads), i, i+1)
	pages := slices.DeleteFunc(slices.Clone(m.Memory.Pages), func(p impl.Page) bool {
		own := p.Base >= 32768+1024*i && p.Base < 32768+1024*i+512
		return p.Base/256*256 == 16384 || p.Base/256*256 == 20480 || own
	})
	return threads, pages
}

// checkMoves asks that a pick moved its own thread alone, and that a thread that came stands at its function's entry, on its own stack.
func checkMoves(t *testing.T, before, after impl.Machine, i int) {
	t.Helper()
	threads, pages := withoutThread(before, i)
	stay, pagesStay := withoutThread(after, i)
	number := len(before.Threads)
	if len(after.Threads) > number {
		asker := before.Threads[i].Hart
		want := impl.NewHart(before.Table[asker.Regs[10]].At, 33280+1024*number)
		want.Regs[10] = asker.Regs[11]
		born := after.Threads[number]
		if len(after.Threads) != number+1 || born.Hart != want || born.State != impl.TsRun || len(born.Out) != 0 || born.Trap != 0 || after.Threads[i].Hart.Regs[10] != number {
			t.Fatalf("a new thread: %s", machineString(after))
		}
		stay = stay[:number-1]
	}
	if !slices.EqualFunc(threads, stay, sameThreads) || !slices.Equal(pages, pagesStay) || !slices.Equal(before.Table, after.Table) {
		t.Fatalf("a pick of thread %d of %s\nmoves something else: %s", i, machineString(before), machineString(after))
	}
	for n, p := range before.Memory.Pages {
		if q := after.Memory.Pages[n]; p.Base != q.Base || p.Perm != q.Perm {
			t.Fatalf("a pick of thread %d turns the page at %d", i, p.Base)
		}
	}
	asks := before.Threads[i].Hart.Regs[17] >= impl.SysAlloc && before.Threads[i].Hart.Regs[17] <= impl.SysFree
	if !slices.Equal(before.Shadows, after.Shadows) && !asks {
		t.Fatalf("a pick of thread %d that turns the shadow variables: %s", i, machineString(after))
	}
}

// Drawn runs of drawn machines: each pick by itself.
func TestAPickMovesItsOwnThreadAlone(t *testing.T) {
	d := dice(45)
	told, most := map[string]int{}, 0
	for range 400 {
		m, code := impl.NewMachine(anyThreadImage(&d))
		if code != impl.OK {
			t.Fatal("no machine of a drawn image:", code)
		}
		for range 200 {
			i := d.below(len(m.Threads))
			before := m
			m = checkPick(t, "a drawn run", m, i)
			if checkMoves(t, before, m, i); t.Failed() {
				return
			}
			told[fmt.Sprint("state ", m.Threads[i].State)]++
			told["threads"] += len(m.Threads) - len(before.Threads)
			told["shadows"] += oneIf(!slices.Equal(m.Shadows, before.Shadows))
			told["out"] += len(m.Threads[i].Out) - len(before.Threads[i].Out)
			told["data"] += oneIf(!slices.Equal(m.Memory.Pages[16:20], before.Memory.Pages[16:20]))
			told["stack"] += oneIf(!slices.Equal(m.Memory.Pages[20:], before.Memory.Pages[20:]))
		}
		most += oneIf(len(m.Threads) == threadLimit)
	}
	for what, least := range map[string]int{"state 1": 5000, "state 2": 200, "state 3": 200, "threads": 100, "shadows": 100, "out": 200, "data": 300, "stack": 1000} {
		if told[what] < least {
			t.Error("the dice tell of", what, "just", told[what])
		}
	}
	if most < 20 {
		t.Error("just", most, "machines come to four threads")
	}
}

// Rounds are picks one after the other; in two parts they are as at once.
func TestRoundsArePicksOneAfterTheOther(t *testing.T) {
	d := dice(46)
	picks := 0
	for range 120 {
		m, code := impl.NewMachine(anyThreadImage(&d))
		if code != impl.OK {
			t.Fatal("no machine of a drawn image:", code)
		}
		checkRounds(t, "a drawn run", m, 0, 1, 2, 5, 13, 27, 39, roundLimit)
		for range 6 {
			n := d.below(roundLimit + 1)
			k := d.below(n + 1)
			whole, first := roundsOf(m, n), roundsOf(m, k)
			parts := roundsOf(first.machine, n-k)
			if parts.picks += first.picks; !parts.is(whole) {
				t.Fatalf("%d rounds and %d more: %d picks, not %d, or another machine", k, n-k, parts.picks, whole.picks)
			}
		}
		later := roundsOf(m, roundLimit)
		checkRounds(t, "a drawn run later on", later.machine, 3, roundLimit)
		picks += later.picks
	}
	if picks < 120*30 {
		t.Error("the runs are too short to tell anything:", picks)
	}
}

// Alike images have alike machines, and these alike runs.
func TestDrawnRunsAreAlike(t *testing.T) {
	d := dice(47)
	for range 60 {
		im := anyThreadImage(&d)
		first, _ := impl.NewMachine(im)
		second, _ := impl.NewMachine(im)
		for range 12 {
			n := d.below(9)
			a, b := roundsOf(first, n), roundsOf(second, n)
			if !a.is(b) || !impl.SameMachine(a.machine, b.machine) {
				t.Fatalf("two runs of the same image: %s\nand %s", machineString(a.machine), machineString(b.machine))
			}
			first, second = a.machine, copiedMachine(b.machine)
		}
	}
}
