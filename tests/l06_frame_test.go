package tests

import (
	"maps"
	"slices"
	"strings"
	"testing"

	"loop.example/g00654/impl"
)

func TestCallsOf(t *testing.T) {
	calls := listed("jal x1 0\njal x0 8\njal x1 -4\njal x1 -8\njal x5 16\njal x1 -1048576\njal x1 1048574\njalr x1 x1 0\nbeq x1 x1 4\nlui x1 0\njal x1 -36\njal x1 2")
	for _, at := range []int{0, 4, 4096, 1048572} {
		want := []int{at + 20 - 1048576, at, at + 4, at + 46, at + 24 + 1048574}
		if got, code := impl.CallsOf(wordsOf(calls), at); code != impl.OK || !slices.Equal(got, want) {
			t.Errorf("CallsOf at %d: %v, %d, not %v", at, got, code, want)
		}
	}
	if got, code := impl.CallsOf("", 0); len(got) != 0 || code != impl.OK {
		t.Error("CallsOf of no word:", got, code)
	}
}

// callsByRule is what CallsOf must answer of instructions.
func callsByRule(list []impl.Instr, at int) []int {
	set := map[int]int{}
	for i, x := range list {
		if x.Op == impl.OpJal && x.Rd == 1 {
			set[at+4*i+x.Imm] = i
		}
	}
	return slices.Sorted(maps.Keys(set))
}

func TestCallsOfAnyRun(t *testing.T) {
	d := dice(6)
	for range 2000 {
		list := sampleRun(d.below(65))
		for range 1 + d.below(12) {
			if len(list) > 0 {
				list[d.below(len(list))] = impl.Instr{Op: impl.OpJal, Rd: 1, Imm: 4*d.below(30) - 60}
			}
		}
		at := 4 * d.below(30)
		if got, code := impl.CallsOf(wordsOf(list), at); code != impl.OK || !slices.Equal(got, callsByRule(list, at)) {
			t.Fatalf("CallsOf of %v at %d: %v, %d", list, at, got, code)
		}
	}
}

func TestCallsOfWrongWords(t *testing.T) {
	good := wordsOf(slices.Repeat(listed("jal x1 4"), 65))
	for n := range len(good) + 1 {
		want := codeUnless(n%4 == 0 && n <= 256, impl.ErrSize)
		if got, code := impl.CallsOf(good[:n], 0); code != want || len(got) != n/4*oneIf(want == impl.OK) {
			t.Errorf("CallsOf of %d bytes: %v, %d", n, got, code)
		}
	}
	for _, word := range noWords {
		for _, at := range []int{0, 1, 30, 63} {
			bad := good[:4*at] + littleByBits(word, 4) + good[4*at+4:256]
			if got, code := impl.CallsOf(bad, 4096); code != impl.ErrCode || len(got) != 0 {
				t.Errorf("CallsOf with the word %08x at %d: %v, %d", word, at, got, code)
			}
			if got, code := impl.CallsOf(bad, 4098); code != impl.ErrRange || len(got) != 0 {
				t.Errorf("CallsOf with the word %08x at %d, from 4098: %v, %d", word, at, got, code)
			}
			if got, code := impl.CallsOf(bad+"a", 4096); code != impl.ErrSize || len(got) != 0 {
				t.Errorf("CallsOf with the word %08x at %d, a byte more: %v, %d", word, at, got, code)
			}
		}
	}
}

// phaseByRule is what PhaseOf must answer of the instruction of a place.
func phaseByRule(i int, x impl.Instr) int {
	name := hartRows[x.Op-1].name
	if i == 0 || name == "jalr" {
		return 0
	}
	if i == 1 || name == "addi" && x.Rd == 2 {
		return 1
	}
	return 2
}

func TestPhasesOfAFunction(t *testing.T) {
	for _, frame := range allFrames {
		b := functionOf(frame, slices.Concat(listed("addi x5 x5 1\naddi x0 x2 2\nld x5 x2 0"), tailOf(frame), listed("addiw x5 x5 1\njal x0 -8"))...)
		want := []int{0, 1, 2, 2, 2, 2, 1, 0, 2, 2, 2, 1, 0}
		for i, phase := range want {
			if got, code := impl.PhaseOf(wordsOf(b.list), i); got != phase || code != impl.OK {
				t.Errorf("PhaseOf instruction %d = %d, %d, not %d", i, got, code, phase)
			}
		}
	}
}

func TestPhasesOfAnyRun(t *testing.T) {
	turned := listed("jalr x0 x1 0\naddi x2 x2 16\njalr x5 x5 4\naddi x2 x0 1\naddi x1 x2 3\naddiw x2 x2 1\nslti x2 x2 1\nadd x2 x2 x2")
	for n := 1; n <= 64; n++ {
		list := sampleRun(n)
		for i, x := range turned {
			list[(n+5*i)%n] = x
			list[i%min(n, 3)] = x
			for j := range list {
				if got, code := impl.PhaseOf(wordsOf(list), j); got != phaseByRule(j, list[j]) || code != impl.OK {
					t.Fatalf("PhaseOf instruction %d of %v = %d, %d", j, list, got, code)
				}
			}
		}
	}
}

func TestPhasesThatAreNone(t *testing.T) {
	good := wordsOf(sampleRun(65))
	for n := range len(good) + 1 {
		text := good[:n]
		size := codeUnless(n%4 == 0 && n <= 256, impl.ErrSize)
		for _, i := range []int{-1, -2, -64, n / 4, n/4 + 1, 64, 65, 1 << 32, leastInt, greatestInt} {
			want := size
			if size == impl.OK && (i < 0 || i >= n/4) {
				want = impl.ErrRange
			}
			if got, code := impl.PhaseOf(text, i); code != want || want != impl.OK && got != 0 {
				t.Errorf("PhaseOf instruction %d of %d bytes: %d, %d, not %d", i, n, got, code, want)
			}
		}
	}
	for _, word := range noWords {
		for _, at := range []int{0, 1, 9, 19} {
			bad := good[:4*at] + littleByBits(word, 4) + good[4*at+4:80]
			for i := -1; i <= 20; i++ {
				want := codeUnless(i == -1 || i == 20, impl.ErrCode)
				if want == impl.OK {
					want = impl.ErrRange
				}
				if got, code := impl.PhaseOf(bad, i); got != 0 || code != want {
					t.Errorf("PhaseOf instruction %d with the word %08x at %d: %d, %d", i, word, at, got, code)
				}
			}
		}
	}
}

// No call of the layer turns what it was given, nor what lies behind it.
func TestNoLintCallChangesWhatItWasGiven(t *testing.T) {
	calls := []int{9000, 4096, 8192, 4096, -4, 7, 7}
	given := slices.Clone(calls)
	b := functionOf(32, listed("jal x1 -8\necall\njal x1 4080")...)
	b.calls = calls[:5]
	b.is(t, 0, impl.OK)
	b.with(3, named("jal x1 0")).is(t, 3, impl.ErrCall)
	if !slices.Equal(calls, given) {
		t.Error("LintFunction changes its calls:", calls)
	}
	list := append(sampleRun(10), sampleRun(10)...)
	kept := slices.Clone(list)
	if _, code := impl.WordsOf(list[:10]); code != impl.OK || !slices.Equal(list, kept) {
		t.Error("WordsOf changes its list:", list)
	}
}

// anyJump answers an instruction that goes somewhere near, of the kinds that go.
func anyJump(d *dice) impl.Instr {
	away := 4*d.below(30) - 60 + 2*(d.below(16)/15)
	switch d.below(8) {
	case 0:
		return impl.Instr{Op: impl.OpJal, Rd: d.below(3), Imm: away}
	case 1:
		return impl.Instr{Op: impl.OpJal, Rd: 1, Imm: 4 * d.below(8)}
	case 2, 3, 4:
		return impl.Instr{Op: impl.OpJal, Imm: away}
	}
	return impl.Instr{Op: impl.OpBeq + d.below(6), Rs1: d.below(32), Rs2: d.below(32), Imm: away}
}

// anyInstr answers an instruction, rarely a word that is none; most hold to the rules.
func anyInstr(d *dice, frame int) []impl.Instr {
	other := allFrames[d.below(len(allFrames))]
	if d.below(4) > 0 {
		other = frame
	}
	switch d.below(24) {
	case 0, 1, 2:
		return tailOf(other)
	case 3:
		return tailOf(other)[d.below(3):]
	case 4:
		return tailOf(other)[:1+d.below(2)]
	case 5, 6, 7, 8:
		return []impl.Instr{anyJump(d)}
	case 9:
		return headOf(other)[d.below(2):]
	case 10, 11, 12:
		place := 8*d.below(frame/8) + d.below(9)/8
		return []impl.Instr{{Op: impl.OpLb + d.below(7), Rd: 3 + d.below(29), Rs1: 2, Imm: place}}
	case 13, 14:
		return []impl.Instr{{Op: impl.OpSb + d.below(4), Rs1: 2, Rs2: d.below(32), Imm: 8*d.below(frame/8) - d.below(9)/8}}
	case 15:
		if d.below(8) == 0 {
			return []impl.Instr{noInstr(noWords[d.below(len(noWords))])}
		}
	case 16:
		return []impl.Instr{samples[d.below(len(samples))]}
	}
	return []impl.Instr{{Op: impl.OpAdd + d.below(10), Rd: 3 + d.below(29), Rs1: d.below(32), Rs2: d.below(32)}}
}

// anyBuilt answers what may be a function, or nearly one.
func anyBuilt(d *dice) built {
	frame := allFrames[d.below(len(allFrames))]
	var body []impl.Instr
	for range d.below(9) {
		body = append(body, anyInstr(d, frame)...)
	}
	b := functionOf(frame, body...)
	switch d.below(12) {
	case 0:
		b = b.more(anyInstr(d, frame)...)
	case 1:
		b = b.more(anyJump(d))
	case 2:
		b.list = b.list[d.below(2):]
	case 3:
		b.list[d.below(len(b.list))] = anyInstr(d, frame)[0]
	}
	if d.below(60) == 0 {
		b.frame = wrongFrames[d.below(len(wrongFrames))]
	}
	b.at, b.calls = 4*d.below(4), []int{16, 8, 40, 24, 16}
	return b
}

func TestAnyFunctionByTheDocumentsWords(t *testing.T) {
	d := dice(7)
	told := map[int]int{}
	for range 60000 {
		b := anyBuilt(&d)
		where, code := b.byRule()
		b.is(t, where, code)
		if told[code]++; t.Failed() {
			return
		}
	}
	for _, code := range []int{impl.OK, impl.ErrFrame, impl.ErrCode, impl.ErrEnd, impl.ErrReturn, impl.ErrCall, impl.ErrJump, impl.ErrReg} {
		if told[code] < 200 {
			t.Errorf("only %d functions of code %d", told[code], code)
		}
	}
}

// The registers that a body of boundBody does not write but for its own ends.
const (
	dataRegister  = 21
	countRegister = 28
)

// calmInstr answers an instruction that goes nowhere, holds to the rules of a frame and finds its page.
func calmInstr(d *dice, frame int) impl.Instr {
	rd := []int{0, 3, 5, 6, 7, 8, 10, 31}[d.below(8)]
	place := d.below(frame/8-1) * 8
	switch d.below(7) {
	case 0:
		return impl.Instr{Op: impl.OpSb + d.below(4), Rs1: 2, Rs2: d.below(32), Imm: place}
	case 1:
		return impl.Instr{Op: impl.OpLb + d.below(7), Rd: rd, Rs1: 2, Imm: place}
	case 2:
		return impl.Instr{Op: impl.OpSb + d.below(4), Rs1: dataRegister, Rs2: d.below(32), Imm: 8*d.below(32) - 128}
	case 3:
		return impl.Instr{Op: impl.OpLb + d.below(7), Rd: rd, Rs1: dataRegister, Imm: 8*d.below(32) - 128}
	case 4:
		return impl.Instr{Op: impl.OpEcall}
	case 5:
		return impl.Instr{Op: []int{impl.OpLui, impl.OpAuipc}[d.below(2)], Rd: rd, Imm: 4096 * d.below(9)}
	}
	return impl.Instr{Op: impl.OpAdd + d.below(10), Rd: rd, Rs1: d.below(32), Rs2: d.below(32)}
}

// calmRun answers instructions of which some go on within the run, or just behind it.
func calmRun(d *dice, frame, n int) []impl.Instr {
	var list []impl.Instr
	for i := range n {
		x := calmInstr(d, frame)
		switch d.below(5) {
		case 0:
			x = impl.Instr{Op: impl.OpBeq + d.below(6), Rs1: d.below(32), Rs2: d.below(32), Imm: 4 + 4*d.below(n-i)}
		case 1:
			if d.below(3) == 0 {
				x = impl.Instr{Op: impl.OpJal, Imm: 4 + 4*d.below(n-i)}
			}
		}
		list = append(list, x)
	}
	return list
}

// loop answers a run that is gone through some times.
func loop(d *dice, run []impl.Instr) []impl.Instr {
	back := []impl.Instr{named("addi x28 x28 -1"), {Op: impl.OpBne, Rs1: countRegister, Imm: -4 * (len(run) + 1)}}
	return slices.Concat([]impl.Instr{named("addi x28 x0 %d", 1+d.below(6))}, run, back)
}

// boundBody answers a body of at most 40 instructions that holds to the rules of a frame and calls nothing; its loops end.
func boundBody(d *dice, frame int) []impl.Instr {
	var body []impl.Instr
	for len(body) < 24 && d.below(6) > 0 {
		run := calmRun(d, frame, d.below(6))
		switch d.below(4) {
		case 0:
			run = loop(d, run)
		case 1:
			// One way leaves at once, the other one goes on.
			run = slices.Concat([]impl.Instr{{Op: impl.OpBeq + d.below(6), Rs1: d.below(32), Rs2: d.below(32), Imm: 16}}, tailOf(frame), run)
		}
		body = append(body, run...)
	}
	return body
}

// boundFunction answers a function of a frame with such a body, some with a jump as its last instruction.
func boundFunction(d *dice, frame int) built {
	b := functionOf(frame, boundBody(d, frame)...)
	b.calls = nil
	if d.below(3) == 0 {
		// The body goes over its epilogue to what lies behind, which comes back to it.
		rest := calmRun(d, frame, d.below(5))
		head := len(b.list) - 3
		b.list = slices.Insert(b.list, head, impl.Instr{Op: impl.OpJal, Imm: 16})
		b = b.more(rest...).more(impl.Instr{Op: impl.OpJal, Imm: -4 * (len(rest) + 3)})
	}
	return b
}

// frameMemory has room for the longest function at 4096, data pages, and stack pages; its bytes are no noughts.
func frameMemory(code string) impl.Memory {
	m := impl.Memory{}
	for base, perm := range map[int]int{4096: 4, 4224: 4, 16384: 3, 16512: 3, 32768: 11, 32896: 11, 33024: 11, 33152: 11} {
		m.Pages = append(m.Pages, somePage(base, perm))
	}
	slices.SortFunc(m.Pages, func(a, b impl.Page) int { return a.Base - b.Base })
	first := min(len(code), 128)
	return laid(laid(m, 4096, code[:first]), 4224, code[first:])
}

// ranBack runs a function of frameMemory step by step, calls of the environment passed over, until it is where it was to return to.
func ranBack(t *testing.T, b built, h impl.Hart, m impl.Memory) (impl.Hart, impl.Memory) {
	t.Helper()
	back := h.Regs[1]
	for range 401 {
		if h.Pc == back {
			return h, m
		}
		next, after, code := impl.StepHart(h, m)
		switch code {
		case impl.OK:
		case impl.ErrEcall:
			next.Pc += 4
		default:
			t.Fatalf("at %d a step's code is %s, of\n%v", h.Pc, impl.CodeWord(code), b)
		}
		h, m = next, after
	}
	t.Fatalf("no way back within 400 steps of\n%v", b)
	return h, m
}

// checkBack runs a function and holds where it comes to, and what it changes, against the theorem of frames.
func checkBack(t *testing.T, b built, h impl.Hart) {
	t.Helper()
	b.is(t, 0, impl.OK)
	given := frameMemory(wordsOf(b.list))
	got, after := ranBack(t, b, h, given)
	if got.Pc != h.Regs[1] || got.Regs[1] != h.Regs[1] || got.Regs[2] != h.Regs[2] {
		t.Fatalf("it comes back to %d with %d, not to %d with %d:\n%v", got.Pc, got.Regs[2], h.Regs[1], h.Regs[2], b)
	}
	before, cells := cellsOf(given), cellsOf(after)
	for address, c := range before {
		own := address >= 16384 && address < 16640 || address >= h.Regs[2]-b.frame && address < h.Regs[2]
		if !own && cells[address] != c {
			t.Fatalf("the byte at %d is changed, the stack is at %d:\n%v", address, h.Regs[2], b)
		}
	}
}

// frameHart answers a processor at 4096 that is to return to an address with a stack.
func frameHart(d *dice, back, stack int) impl.Hart {
	h := numberHart(4096, d.below(len(aluInts)))
	h.Regs[1], h.Regs[2], h.Regs[dataRegister] = back, stack, 16512
	return h
}

func TestFunctionsComeBack(t *testing.T) {
	d := dice(8)
	backs := []int{8192, 0, 4092, 4352, -4, leastInt, greatestInt - 1, 1048576, 2}
	for i := range 1500 {
		b := boundFunction(&d, allFrames[i%len(allFrames)])
		stack := []int{33024, 33280, 33152, 33040, 32768 + b.frame}[d.below(5)]
		checkBack(t, b, frameHart(&d, backs[d.below(len(backs))], stack))
	}
}

// Each store to each place of the frame that a body may have.
func TestStoresOfTheWholeFrame(t *testing.T) {
	d := dice(9)
	for _, frame := range allFrames {
		for op := impl.OpSb; op <= impl.OpSd; op++ {
			var stores []impl.Instr
			for place := 0; place <= frame-8-widthByName(hartRows[op-1].name); place += widthByName(hartRows[op-1].name) {
				stores = append(stores, impl.Instr{Op: op, Rs1: 2, Rs2: 7, Imm: place})
			}
			for part := range slices.Chunk(stores, 40) {
				h := frameHart(&d, 8192, 33024)
				h.Regs[7] = -2401053089206453570
				checkBack(t, functionOf(frame, part...), h)
			}
		}
	}
}

// What the rules refuse can break the theorem: a store to where the address to return to is kept.
func TestAStoreThatIsRefusedLosesTheWayBack(t *testing.T) {
	b := functionOf(32, named("sd x0 x2 24"))
	b.is(t, 2, impl.ErrFrame)
	d := dice(10)
	h, _, went, _ := impl.RunHart(frameHart(&d, 8192, 33024), frameMemory(wordsOf(b.list)), 6)
	if h.Pc != 0 || went != 6 {
		t.Error("it comes back to", h.Pc)
	}
}

func TestPrologueBodyAndEpilogueAreAFunction(t *testing.T) {
	d := dice(11)
	longest := 0
	for i := range 3000 {
		frame := allFrames[i%len(allFrames)]
		body := boundBody(&d, frame)
		longest = max(longest, len(body))
		if d.below(2) == 0 {
			body = append(body, impl.Instr{Op: impl.OpJal, Rd: 1, Imm: 4096 - 4*(len(body)+2)})
		}
		head, _ := impl.Prologue(frame)
		tail, _ := impl.Epilogue(frame)
		list := slices.Concat(head, body, tail)
		code, fault := impl.WordsOf(list)
		if fault != impl.OK {
			t.Fatal("WordsOf:", fault)
		}
		if where, fault := impl.LintFunction(code, 4096, frame, []int{0, 8192}); where != 0 || fault != impl.OK {
			t.Fatalf("LintFunction: %d, %d, of\n%v", where, fault, built{list, 4096, frame, nil})
		}
		if got, _, fault := impl.InstrsOf(code); fault != impl.OK || !slices.Equal(got, list) {
			t.Fatalf("the words are read back as %v, %d", got, fault)
		}
	}
	if longest < 30 || longest > 40 {
		t.Error("the longest body has", longest, "instructions")
	}
}

func TestFunctionsOfTheMostInstructions(t *testing.T) {
	list := slices.Repeat(listed("sd x7 x2 0"), 59)
	checkBack(t, functionOf(128, list...), impl.Hart{Pc: 4096, Regs: [32]int{1: 8192, 2: 33280, 7: -1}})
	if where, code := impl.LintFunction(strings.Repeat(wordsOf(tailOf(16)), 22), 0, 16, nil); where != 0 || code != impl.ErrSize {
		t.Error("66 words:", where, code)
	}
}
