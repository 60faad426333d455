package tests

import (
	"fmt"
	"slices"
	"strings"
	"testing"

	"loop.example/g00654/impl"
)

// allFrames has each frame that the document allows.
var allFrames = []int{16, 32, 48, 64, 80, 96, 112, 128}

// wrongFrames has numbers that are no frame.
var wrongFrames = []int{0, 1, 8, 15, 17, 24, 40, 120, 127, 129, 136, 144, 160, 256, -8, -16, -32, -128, 1 << 32, 1<<32 + 16, leastInt, leastInt + 16, greatestInt, greatestInt - 15}

// wrongPlaces has numbers that are no address of a function.
var wrongPlaces = []int{-1, -2, -4, -8, -4096, 1, 2, 3, 5, 6, 4095, 4097, 4098, 4099, 1048573, 1048574, 1048575, 1048576, 1048580, 1 << 32, 1<<32 + 4096, leastInt, leastInt + 4096, greatestInt, greatestInt - 3}

// noWords has words that are no instruction.
var noWords = []int{0, greatWord, 1, 0x00200073, 0x0000200f, 0x02000033 | 1<<30, 0x00002063, 0x00007003, 0x00004023}

// named answers the instruction of a text.
func named(text string, values ...any) impl.Instr {
	x, code := impl.ReadInstr(fmt.Sprintf(text, values...))
	if code != impl.OK {
		panic("no instruction: " + fmt.Sprintf(text, values...))
	}
	return x
}

// listed answers the instructions of texts, one a line.
func listed(texts string) []impl.Instr {
	var list []impl.Instr
	for line := range strings.Lines(texts) {
		list = append(list, named("%s", strings.TrimSpace(line)))
	}
	return list
}

func headOf(frame int) []impl.Instr {
	return []impl.Instr{{Op: impl.OpAddi, Rd: 2, Rs1: 2, Imm: -frame}, {Op: impl.OpSd, Rs1: 2, Rs2: 1, Imm: frame - 8}}
}

func tailOf(frame int) []impl.Instr {
	return []impl.Instr{{Op: impl.OpLd, Rd: 1, Rs1: 2, Imm: frame - 8}, {Op: impl.OpAddi, Rd: 2, Rs1: 2, Imm: frame}, {Op: impl.OpJalr, Rs1: 1}}
}

// noInstr stands for a word that is no instruction.
func noInstr(word int) impl.Instr { return impl.Instr{Imm: word} }

// knownWords has the words of instructions that were asked for.
var knownWords = map[impl.Instr]string{}

// wordsOf answers the words of a run, by the document's tables.
func wordsOf(list []impl.Instr) string {
	out := ""
	for _, x := range list {
		word, known := knownWords[x]
		if !known {
			word = littleByBits(x.Imm, 4)
			if x.Op != 0 {
				word = littleByBits(wordByBits(hartRows[x.Op-1], x), 4)
			}
			knownWords[x] = word
		}
		out += word
	}
	return out
}

// built is what LintFunction is asked of.
type built struct {
	list  []impl.Instr
	at    int
	frame int
	calls []int
}

// functionOf answers a function of a frame with a body, that stands at 4096 and may call what begins there and at 8192.
func functionOf(frame int, body ...impl.Instr) built {
	return built{slices.Concat(headOf(frame), body, tailOf(frame)), 4096, frame, []int{8192, 4096}}
}

// with answers the function with another instruction at a place.
func (b built) with(i int, x impl.Instr) built {
	b.list = slices.Clone(b.list)
	b.list[i] = x
	return b
}

// more answers the function with further instructions behind its last one.
func (b built) more(list ...impl.Instr) built {
	b.list = slices.Concat(b.list, list)
	return b
}

func (b built) lint() (int, int) {
	return impl.LintFunction(wordsOf(b.list), b.at, b.frame, b.calls)
}

func (b built) String() string {
	out := fmt.Sprintf("at %d, frame %d, calls %v", b.at, b.frame, b.calls)
	for i, x := range b.list {
		text, _ := impl.InstrText(x)
		if x.Op == 0 {
			text = fmt.Sprintf("no instruction %08x", x.Imm)
		}
		out += fmt.Sprintf("\n%d: %s", i, text)
	}
	return out
}

// is holds the answer for a function against what the document asks.
func (b built) is(t *testing.T, where, code int) {
	t.Helper()
	if gotWhere, gotCode := b.lint(); gotWhere != where || gotCode != code {
		t.Errorf("LintFunction = %d, %s, not %d, %s, of\n%v", gotWhere, impl.CodeWord(gotCode), where, impl.CodeWord(code), b)
	}
}

// tailsOf answers the places of the first instructions of a function's epilogues.
func (b built) tails() []int {
	var out []int
	tail := tailOf(b.frame)
	for i := 2; i+3 <= len(b.list); i++ {
		if b.list[i] == tail[0] && b.list[i+1] == tail[1] && b.list[i+2] == tail[2] {
			out = append(out, i)
		}
	}
	return out
}

// byRule is what LintFunction must answer, by the document's words.
func (b built) byRule() (int, int) {
	switch {
	case b.at < 0 || b.at > 1048575 || b.at%4 != 0:
		return 0, impl.ErrRange
	case !slices.Contains(allFrames, b.frame):
		return 0, impl.ErrFrame
	case len(b.list) < 5 || len(b.list) > 64:
		return 0, impl.ErrSize
	}
	if i := slices.IndexFunc(b.list, func(x impl.Instr) bool { return x.Op == 0 }); i >= 0 {
		return i, impl.ErrCode
	}
	for i, x := range headOf(b.frame) {
		if b.list[i] != x {
			return i, impl.ErrFrame
		}
	}
	last := b.list[len(b.list)-1]
	if name := hartRows[last.Op-1].name; name != "jalr" && (name != "jal" || last.Rd != 0) {
		return len(b.list) - 1, impl.ErrEnd
	}
	for i := 2; i < len(b.list); i++ {
		if code := b.codeByRule(i); code != impl.OK {
			return i, code
		}
	}
	return 0, impl.OK
}

// goesByRule tells whether an instruction goes where a jump may go.
func (b built) goesByRule(i int) bool {
	away := b.list[i].Imm
	if away%4 != 0 || 4*i+away < 8 || 4*i+away > 4*len(b.list)-4 {
		return false
	}
	for _, tail := range b.tails() {
		if 4*i+away == 4*tail+4 || 4*i+away == 4*tail+8 {
			return false
		}
	}
	return true
}

// codeByRule is the code of an instruction behind the prologue.
func (b built) codeByRule(i int) int {
	x := b.list[i]
	row := hartRows[x.Op-1]
	tails := b.tails()
	switch {
	case row.name == "jalr":
		return codeUnless(slices.Contains(tails, i-2), impl.ErrReturn)
	case row.name == "jal" && x.Rd == 1:
		return codeUnless(slices.Contains(b.calls, b.at+4*i+x.Imm), impl.ErrCall)
	case row.name == "jal":
		return codeUnless(x.Rd == 0 && b.goesByRule(i), impl.ErrJump)
	case row.shape.Form == 4:
		return codeUnless(b.goesByRule(i), impl.ErrJump)
	case x.Rd == 1 && !slices.Contains(tails, i), x.Rd == 2 && !slices.Contains(tails, i-1):
		return impl.ErrReg
	}
	if (row.shape.Code == 3 || row.shape.Code == 35) && x.Rs1 == 2 && !slices.Contains(tails, i) {
		n := widthByName(row.name)
		return codeUnless(x.Imm%n == 0 && x.Imm >= 0 && x.Imm <= b.frame-8-n, impl.ErrFrame)
	}
	return impl.OK
}

func codeUnless(holds bool, code int) int {
	if holds {
		return impl.OK
	}
	return code
}

func TestLintConstants(t *testing.T) {
	got := []int{impl.MinInstrs, impl.MaxInstrs, impl.MinFrame, impl.MaxFrame, impl.PhOutside, impl.PhUnsaved, impl.PhSaved}
	if !slices.Equal(got, []int{5, 64, 16, 128, 0, 1, 2}) {
		t.Error("constants", got)
	}
}

func TestFrames(t *testing.T) {
	for frame := -300; frame <= 300; frame++ {
		checkFrame(t, frame, slices.Contains(allFrames, frame))
	}
	for _, frame := range append(wrongFrames, someInts...) {
		checkFrame(t, frame, slices.Contains(allFrames, frame))
	}
}

func checkFrame(t *testing.T, frame int, right bool) {
	t.Helper()
	if impl.FrameOK(frame) != right {
		t.Errorf("FrameOK(%d) = %v", frame, !right)
	}
	head, headCode := impl.Prologue(frame)
	tail, tailCode := impl.Epilogue(frame)
	if !right {
		if headCode != impl.ErrFrame || tailCode != impl.ErrFrame || len(head)+len(tail) != 0 {
			t.Errorf("Prologue and Epilogue of %d: %v, %d, %v, %d", frame, head, headCode, tail, tailCode)
		}
		return
	}
	if headCode != impl.OK || !slices.Equal(head, headOf(frame)) {
		t.Errorf("Prologue(%d) = %v, %d", frame, head, headCode)
	}
	if tailCode != impl.OK || !slices.Equal(tail, tailOf(frame)) {
		t.Errorf("Epilogue(%d) = %v, %d", frame, tail, tailCode)
	}
}

// What is written into an answer is not seen in the next one.
func TestProloguesAndEpiloguesAreNewMemory(t *testing.T) {
	for _, call := range []func(int) ([]impl.Instr, int){impl.Prologue, impl.Epilogue} {
		first, _ := call(32)
		kept := slices.Clone(first)
		clear(first)
		if second, _ := call(32); !slices.Equal(second, kept) {
			t.Error("an answer shares its memory with the next one:", second)
		}
	}
}

// samples has some right instructions of each operation, in turn.
var samples = func() []impl.Instr {
	var list []impl.Instr
	for i := range 8 * len(hartRows) {
		choice := rightInstrs(hartRows[i%len(hartRows)])
		list = append(list, choice[i*7%len(choice)])
	}
	return list
}()

// sampleRun answers n right instructions, of all operations.
func sampleRun(n int) []impl.Instr { return slices.Clone(samples[:n]) }

func TestInstructionsAreReadBackFromTheirWords(t *testing.T) {
	for n := range 65 {
		list := sampleRun(n)
		given := slices.Clone(list)
		code, fault := impl.WordsOf(list)
		if fault != impl.OK || code != wordsOf(given) {
			t.Fatalf("WordsOf of %d instructions: %x, %d", n, code, fault)
		}
		got, where, fault := impl.InstrsOf(code)
		if fault != impl.OK || where != 0 || !slices.Equal(got, given) {
			t.Fatalf("InstrsOf of %d words: %v, %d, %d", n, got, where, fault)
		}
		clear(got)
		if again, _, _ := impl.InstrsOf(code); !slices.Equal(again, given) || !slices.Equal(list, given) {
			t.Fatalf("an answer of %d instructions shares its memory with another one", n)
		}
	}
	for _, r := range hartRows {
		list := rightInstrs(r)
		for i := 0; i < len(list); i += 1 + len(list)/100 {
			code, _ := impl.WordsOf(list[i : i+1])
			if got, _, fault := impl.InstrsOf(code); fault != impl.OK || len(got) != 1 || got[0] != list[i] {
				t.Fatalf("%v is read back as %v, %d", list[i], got, fault)
			}
		}
	}
}

func TestWordsOfWrongLists(t *testing.T) {
	for n, want := range map[int]int{65: impl.ErrMany, 66: impl.ErrMany, 4095: impl.ErrMany, 4096: impl.ErrMany, 4097: impl.ErrLong, 8192: impl.ErrLong, 65537: impl.ErrLong} {
		for _, x := range []impl.Instr{named("ecall"), {}} {
			if code, fault := impl.WordsOf(slices.Repeat([]impl.Instr{x}, n)); code != "" || fault != want {
				t.Errorf("WordsOf of %d instructions: %d bytes, %d", n, len(code), fault)
			}
		}
	}
	for _, r := range hartRows {
		for i, x := range wrongInstrs(r) {
			n := 1 + i%64
			for _, at := range []int{0, n - 1, n / 2} {
				list := slices.Repeat([]impl.Instr{named("addi x5 x5 1")}, n)
				list[at] = x
				if code, fault := impl.WordsOf(list); code != "" || fault != impl.ErrBad {
					t.Fatalf("WordsOf of %d instructions, %v among them: %d bytes, %d", n, x, len(code), fault)
				}
			}
		}
	}
}

func checkNoRun(t *testing.T, text string, where, code int) {
	t.Helper()
	if list, gotWhere, gotCode := impl.InstrsOf(text); len(list) != 0 || gotWhere != where || gotCode != code {
		t.Errorf("InstrsOf of %d bytes: %d instructions, %d, %d, not %d, %d", len(text), len(list), gotWhere, gotCode, where, code)
	}
}

func TestInstrsOfWrongWords(t *testing.T) {
	good := wordsOf(sampleRun(64))
	for n := range 300 {
		if text := (good + good)[:n]; n%4 != 0 || n > 256 {
			checkNoRun(t, text, 0, impl.ErrSize)
			checkNoRun(t, strings.Repeat("\x00", n), 0, impl.ErrSize)
		}
	}
	for n, code := range map[int]int{1024: impl.ErrSize, impl.MaxText: impl.ErrSize, impl.MaxText + 1: impl.ErrLong, impl.MaxText + 4: impl.ErrLong, 4 * impl.MaxText: impl.ErrLong} {
		checkNoRun(t, strings.Repeat("\x00", n), 0, code)
	}
	for i, word := range noWords {
		for n := 1; n <= 64; n += 1 + i {
			for _, at := range []int{0, n - 1, n / 2} {
				text := good[:4*at] + littleByBits(word, 4) + good[4*at+4:4*n]
				checkNoRun(t, text, at, impl.ErrCode)
				checkNoRun(t, text[:4*at+4]+strings.Repeat("\x00", 4*(n-1-at)), at, impl.ErrCode)
			}
		}
	}
}

func TestFunctionsOfEachFrame(t *testing.T) {
	for _, frame := range append(slices.Clone(allFrames), wrongFrames...) {
		for _, own := range allFrames {
			b := functionOf(own)
			b.frame = frame
			b.is(t, 0, codeUnless(own == frame, impl.ErrFrame))
		}
	}
	for i, frame := range allFrames {
		other := allFrames[(i+1)%len(allFrames)]
		b := functionOf(frame, named("addi x5 x5 1"))
		b.with(0, headOf(other)[0]).is(t, 0, impl.ErrFrame)
		b.with(1, headOf(other)[1]).is(t, 1, impl.ErrFrame)
		b.with(0, named("ecall")).is(t, 0, impl.ErrFrame)
		b.with(1, named("ecall")).is(t, 1, impl.ErrFrame)
		b.with(1, headOf(frame)[0]).is(t, 1, impl.ErrFrame)
		b.with(3, tailOf(other)[0]).is(t, 3, impl.ErrReg)
		b.with(4, tailOf(other)[1]).is(t, 3, impl.ErrReg)
		b.more(tailOf(other)...).is(t, 6, impl.ErrReg)
		functionOf(frame, tailOf(other)...).is(t, 2, impl.ErrReg)
	}
}

func TestFunctionsAtEachPlace(t *testing.T) {
	for _, at := range []int{0, 4, 8, 4096, 65536, 1048568, 1048572} {
		b := functionOf(16)
		b.at = at
		b.is(t, 0, impl.OK)
		if calls, code := impl.CallsOf(wordsOf(b.list), at); len(calls) != 0 || code != impl.OK {
			t.Errorf("CallsOf at %d: %v, %d", at, calls, code)
		}
	}
	for _, at := range wrongPlaces {
		b := functionOf(16)
		b.at = at
		b.is(t, 0, impl.ErrRange)
		if calls, code := impl.CallsOf(wordsOf(b.list), at); len(calls) != 0 || code != impl.ErrRange {
			t.Errorf("CallsOf at %d: %v, %d", at, calls, code)
		}
	}
}

func TestFunctionsOfEachLength(t *testing.T) {
	body := slices.Repeat([]impl.Instr{named("addi x5 x5 1")}, 80)
	for n := range 80 {
		functionOf(48, body[:n]...).is(t, 0, codeUnless(n <= 59, impl.ErrSize))
	}
	whole := wordsOf(functionOf(48, body...).list)
	for n := range len(whole) {
		if n%4 != 0 || n < 20 || n > 256 {
			if where, code := impl.LintFunction(whole[:n], 4096, 48, nil); where != 0 || code != impl.ErrSize {
				t.Errorf("LintFunction of %d bytes: %d, %d", n, where, code)
			}
		}
	}
	for n, want := range map[int]int{512: impl.ErrSize, impl.MaxText: impl.ErrSize, impl.MaxText + 1: impl.ErrLong, 2 * impl.MaxText: impl.ErrLong} {
		for _, at := range []int{4096, -1} {
			long := strings.Repeat("\x13", n)
			wantAt := want
			if at < 0 && want != impl.ErrLong {
				wantAt = impl.ErrRange
			}
			if where, code := impl.LintFunction(long, at, 48, nil); where != 0 || code != wantAt {
				t.Errorf("LintFunction of %d bytes at %d: %d, %d", n, at, where, code)
			}
			if calls, code := impl.CallsOf(long, at); len(calls) != 0 || code != wantAt {
				t.Errorf("CallsOf of %d bytes at %d: %v, %d", n, at, calls, code)
			}
		}
		if phase, code := impl.PhaseOf(strings.Repeat("\x13", n), -1); phase != 0 || code != want {
			t.Errorf("PhaseOf of %d bytes: %d, %d", n, phase, code)
		}
	}
}

// jumpsOf answers each instruction that goes to a place as a jump or a branch does.
func jumpsOf(away int) []impl.Instr {
	list := []impl.Instr{{Op: impl.OpJal, Imm: away}}
	for op := impl.OpBeq; op <= impl.OpBgeu; op++ {
		list = append(list, impl.Instr{Op: op, Rs1: 1, Rs2: 2, Imm: away})
	}
	return list
}

// Its instructions: 0 and 1 the prologue, 2 and 3 its body, 4 to 6 an epilogue, 7 and 8 more of its body, 9 to 11 the last epilogue.
func twoTails() built {
	plain := named("addi x5 x5 1")
	return functionOf(64, slices.Concat([]impl.Instr{plain, plain}, tailOf(64), []impl.Instr{plain, plain})...)
}

func TestWhereAJumpMayGo(t *testing.T) {
	b := twoTails()
	b.is(t, 0, impl.OK)
	for _, from := range []int{2, 3, 7, 8} {
		for to := -40; to <= 100; to += 2 {
			allowed := slices.Contains([]int{8, 12, 16, 28, 32, 36}, to)
			for _, x := range jumpsOf(to - 4*from) {
				b.with(from, x).is(t, oneIf(!allowed)*from, codeUnless(allowed, impl.ErrJump))
			}
		}
		for _, far := range []int{-4096, 4092, 4094, -4094} {
			for _, x := range jumpsOf(far) {
				b.with(from, x).is(t, from, impl.ErrJump)
			}
		}
		for _, far := range []int{-1048576, 1048574, 1048572, 65536} {
			b.with(from, impl.Instr{Op: impl.OpJal, Imm: far}).is(t, from, impl.ErrJump)
		}
	}
}

func TestAJumpAtTheEnd(t *testing.T) {
	for to := -8; to <= 60; to += 2 {
		allowed := slices.Contains([]int{8, 12, 16, 28, 32, 36, 48}, to)
		b := twoTails().more(impl.Instr{Op: impl.OpJal, Imm: to - 48})
		b.is(t, oneIf(!allowed)*12, codeUnless(allowed, impl.ErrJump))
	}
	built{slices.Concat(headOf(16), listed("addi x5 x5 1\njal x0 -4\njal x0 -8")), 4096, 16, nil}.is(t, 0, impl.OK)
}

// A jump may go to what begins like an epilogue but is none.
func TestTheMidstOfWhatIsNoEpilogue(t *testing.T) {
	for _, rest := range []string{"addi x5 x5 1\naddi x6 x6 1\naddi x7 x7 1", "addi x5 x2 64\njal x0 -4\njal x0 -8", "jal x0 8\njal x0 4\nbeq x0 x0 -8"} {
		functionOf(64, listed(rest)...).is(t, 0, impl.OK)
	}
	// A whole epilogue of another frame has none of its instructions as jumps' marks: its first one is refused ahead.
	functionOf(64, slices.Concat(listed("jal x0 8"), tailOf(48))...).is(t, 3, impl.ErrReg)
	functionOf(64, slices.Concat(listed("jal x0 8"), tailOf(64))...).is(t, 2, impl.ErrJump)
}

func TestWhatMayBeTheLast(t *testing.T) {
	for _, r := range hartRows {
		list := rightInstrs(r)
		for i := 0; i < len(list); i += 1 + len(list)/20 {
			x := list[i]
			b := functionOf(32).more(x)
			switch {
			case r.name == "jalr":
				b.is(t, 5, impl.ErrReturn)
			case r.name != "jal" || x.Rd != 0:
				b.is(t, 5, impl.ErrEnd)
			}
		}
	}
	functionOf(32).more(named("jal x0 0")).is(t, 0, impl.OK)
	functionOf(32).more(named("jal x1 -20")).is(t, 5, impl.ErrEnd)
	functionOf(32).more(tailOf(32)...).is(t, 0, impl.OK)
	functionOf(32).more(tailOf(32)[:2]...).is(t, 6, impl.ErrEnd)
	functionOf(32).more(tailOf(32)[1:]...).is(t, 5, impl.ErrReg)
	functionOf(32).more(tailOf(32)[2]).is(t, 5, impl.ErrReturn)
}

func TestReturns(t *testing.T) {
	tail := tailOf(32)
	plain := named("addi x5 x5 1")
	functionOf(32, plain, tail[2]).is(t, 3, impl.ErrReturn)
	functionOf(32, tail[2]).is(t, 2, impl.ErrReturn)
	functionOf(32, tail[0], tail[1], plain, tail[2]).is(t, 2, impl.ErrReg)
	functionOf(32, tail[1], tail[0], tail[2]).is(t, 2, impl.ErrReg)
	functionOf(32, tail...).is(t, 0, impl.OK)
	functionOf(32, slices.Concat(tail, tail, tail, []impl.Instr{plain})...).is(t, 0, impl.OK)
	for _, text := range []string{"jalr x0 x1 1", "jalr x0 x1 -2", "jalr x0 x5 0", "jalr x1 x1 0", "jalr x2 x1 0", "jalr x5 x1 0", "jalr x1 x5 8"} {
		functionOf(32, named("%s", text)).is(t, 2, impl.ErrReturn)
		functionOf(32, tail[0], tail[1], named("%s", text)).is(t, 2, impl.ErrReg)
		functionOf(32).with(4, named("%s", text)).is(t, 2, impl.ErrReg)
	}
}

func TestCallsOfFunctions(t *testing.T) {
	for _, calls := range [][]int{nil, {}, {4096}, {8192}, {8192, 4096}, {-4, 0, 4096 + 12, 4098, 1048576}, {4096 + 8, leastInt, greatestInt}, slices.Repeat([]int{4096 + 8}, impl.MaxList)} {
		for to := -12; to <= 4128; to += 2 {
			if to%512 > 40 && to%512 < 472 {
				continue
			}
			b := functionOf(32, named("jal x1 %d", to-8))
			b.calls = calls
			allowed := slices.Contains(calls, 4096+to)
			b.is(t, oneIf(!allowed)*2, codeUnless(allowed, impl.ErrCall))
		}
	}
	b := functionOf(32, named("jal x1 -1048576"), named("jal x1 1048574"))
	for calls, where := range map[[2]int]int{{4104 - 1048576, 4108 + 1048574}: 0, {4104 + 1048576, 4108 + 1048574}: 2, {4104 - 1048576, 0}: 3} {
		b.calls = calls[:]
		b.is(t, where, codeUnless(where == 0, impl.ErrCall))
	}
	for n, code := range map[int]int{impl.MaxList: impl.ErrRange, impl.MaxList + 1: impl.ErrLong, 3 * impl.MaxList: impl.ErrLong} {
		b.at, b.calls = -1, make([]int, n)
		b.is(t, 0, code)
	}
}

func TestJumpsThatKeepTheirPlace(t *testing.T) {
	for rd := range 32 {
		b := functionOf(32, impl.Instr{Op: impl.OpJal, Rd: rd, Imm: 4})
		switch rd {
		case 0:
			b.is(t, 0, impl.OK)
		case 1:
			b.is(t, 2, impl.ErrCall)
		default:
			b.is(t, 2, impl.ErrJump)
			b.with(2, impl.Instr{Op: impl.OpJal, Rd: rd, Imm: 4096 - 8}).is(t, 2, impl.ErrJump)
		}
	}
}

func TestRegistersThatMayNotBeWritten(t *testing.T) {
	for _, r := range hartRows {
		if !strings.HasPrefix(formTable[r.shape.Form].told, "rd") || r.name == "jal" || r.name == "jalr" {
			continue
		}
		for rd := range 32 {
			b := functionOf(96, impl.Instr{Op: r.op, Rd: rd, Rs1: 5})
			if r.shape.Form == 1 || rd == 5 {
				b = functionOf(96, impl.Instr{Op: r.op, Rd: rd})
			}
			refused := rd == 1 || rd == 2
			b.is(t, oneIf(refused)*2, codeUnless(!refused, impl.ErrReg))
		}
	}
	// With both faults it is told that the register may not be written.
	functionOf(96, named("ld x1 x2 -8")).is(t, 2, impl.ErrReg)
	functionOf(96, named("lb x2 x2 88")).is(t, 2, impl.ErrReg)
	functionOf(96, named("ld x1 x2 88")).is(t, 2, impl.ErrReg)
	functionOf(96, named("ld x1 x2 88"), named("addi x2 x2 96")).is(t, 2, impl.ErrReg)
	functionOf(96, named("ld x5 x2 88")).is(t, 2, impl.ErrFrame)
	functionOf(96, named("sd x1 x2 88")).is(t, 2, impl.ErrFrame)
	functionOf(96, named("sd x2 x2 80"), named("sd x1 x2 0"), named("add x5 x1 x2")).is(t, 0, impl.OK)
}

func TestEachPlaceOfTheFrame(t *testing.T) {
	for _, frame := range allFrames {
		for op := impl.OpLb; op <= impl.OpSd; op++ {
			n := widthByName(hartRows[op-1].name)
			for place := -20; place <= frame+20; place++ {
				checkPlace(t, frame, op, place, place >= 0 && place <= frame-8-n && place%n == 0)
			}
			for _, place := range []int{-2048, -1024, 1024, 2040, 2047} {
				checkPlace(t, frame, op, place, false)
			}
		}
	}
}

func checkPlace(t *testing.T, frame, op, place int, right bool) {
	t.Helper()
	x := impl.Instr{Op: op, Rd: 5, Rs1: 2, Imm: place}
	if op >= impl.OpSb {
		x.Rd, x.Rs2 = 0, 5
	}
	functionOf(frame, x).is(t, oneIf(!right)*2, codeUnless(right, impl.ErrFrame))
	x.Rs1 = 3
	functionOf(frame, x).is(t, 0, impl.OK)
}

// spoiled is a function with one fault; the faults are in the document's order.
type spoiled struct {
	spoil func(b *built)
	where int
	code  int
}

// put answers what puts an instruction at a place.
func put(i int, text string) func(b *built) {
	return func(b *built) { b.list[i] = named("%s", text) }
}

// spoilers has each fault of a function of 12 instructions, body at 2 to 8.
var spoilers = []spoiled{
	{func(b *built) { b.calls = make([]int, 4097) }, 0, impl.ErrLong},
	{func(b *built) { b.at = 4098 }, 0, impl.ErrRange},
	{func(b *built) { b.frame = 24 }, 0, impl.ErrFrame},
	{func(b *built) { b.list = slices.Concat(b.list, make([]impl.Instr, 53)) }, 0, impl.ErrSize},
	{func(b *built) { b.list[2] = noInstr(0) }, 2, impl.ErrCode},
	{func(b *built) { b.list[8] = noInstr(greatWord) }, 8, impl.ErrCode},
	{put(0, "addi x2 x2 -48"), 0, impl.ErrFrame},
	{put(1, "sd x1 x2 40"), 1, impl.ErrFrame},
	{put(11, "jal x5 -4"), 11, impl.ErrEnd},
	{put(3, "jalr x0 x1 0"), 3, impl.ErrReturn},
	{put(4, "jal x1 4"), 4, impl.ErrCall},
	{put(5, "jal x0 20"), 5, impl.ErrJump},
	{put(6, "addi x2 x2 16"), 6, impl.ErrReg},
	{put(7, "sd x5 x2 24"), 7, impl.ErrFrame},
}

func TestFaultsOfFunctionsInTheirOrder(t *testing.T) {
	for i, first := range spoilers {
		for _, later := range spoilers[i:] {
			b := functionOf(32, slices.Repeat([]impl.Instr{named("addi x5 x5 1")}, 7)...)
			later.spoil(&b)
			first.spoil(&b)
			b.is(t, first.where, first.code)
		}
	}
}

// In turn: an instruction's place counts, not the kind of its fault.
func TestTheFirstInstructionCounts(t *testing.T) {
	faults := spoilers[9:]
	for i, first := range faults {
		for j, later := range faults {
			if i == j {
				continue
			}
			b := functionOf(32, slices.Repeat([]impl.Instr{named("addi x5 x5 1")}, 7)...)
			b.list[4] = lonely(first)
			b.list[7] = lonely(later)
			b.is(t, 4, first.code)
			b.with(4, named("ecall")).is(t, 7, later.code)
		}
	}
}

// lonely answers the instruction that a spoiler puts, one that is a fault wherever it stands.
func lonely(s spoiled) impl.Instr {
	b := functionOf(32, make([]impl.Instr, 7)...)
	s.spoil(&b)
	x := b.list[s.where]
	if x.Op == impl.OpJal && x.Rd == 0 {
		x.Imm = 400
	}
	return x
}
