package tests

import (
	"slices"
	"testing"

	"loop.example/g00654/impl"
)

// pairing is two instructions, the kinds of relocations that make them reach a value, and where they stand.
type pairing struct {
	first, second         impl.Instr
	firstKind, secondKind int
	place, behind         int
}

// pairingOf answers the pairing of a lui or an auipc, and of an instruction of a row, by way of a register.
func pairingOf(first string, r opRow, register, place int) pairing {
	p := pairing{first: named(first+" x%d 0", register), second: impl.Instr{Op: r.op, Rs1: register}, place: place, behind: place + 4}
	p.firstKind, p.secondKind = impl.RelHi20, impl.RelLo12I
	if r.shape.Form == 5 {
		p.secondKind, p.second.Rs2 = impl.RelLo12S, 31-register
	} else {
		p.second.Rd = 31 - register
	}
	if first == "auipc" {
		p.firstKind, p.secondKind = p.firstKind+3, p.secondKind+3
	}
	return p
}

// check relocates the pair, and asks which address it makes up.
func (p pairing) check(t *testing.T, value int) {
	t.Helper()
	first, code := impl.ApplyReloc(wordOf(p.first), p.firstKind, value, p.place)
	if code != impl.OK {
		t.Errorf("%v at %d, value %d: %d", p.first, p.place, value, code)
	}
	second, code := impl.ApplyReloc(wordOf(p.second), p.secondKind, value, p.behind)
	if code != impl.OK {
		t.Errorf("%v at %d, value %d: %d", p.second, p.behind, value, code)
	}
	if got, code := impl.PairAddress(first, second, p.place); got != value || code != impl.OK {
		t.Errorf("%v and %v at %d reach %d, %d, not %d", p.first, p.second, p.place, got, code, value)
	}
}

// eachPairing tells the pairings of either first instruction with each that may be the second one.
func eachPairing(register, place int, do func(p pairing)) {
	for _, r := range hartRows {
		if !takesLower(r) && r.shape.Form != 5 {
			continue
		}
		for _, first := range []string{"lui", "auipc"} {
			do(pairingOf(first, r, register, place))
		}
	}
}

func TestPairsReachTheValue(t *testing.T) {
	d := dice(13)
	pairs := 0
	for register := 1; register <= 31; register++ {
		for _, value := range pairValues {
			eachPairing(register, 4*d.below(lastPlace/4), func(p pairing) {
				p.check(t, value)
				pairs++
			})
		}
	}
	// 14 operations of form FoImm and four stores.
	if pairs != 31*len(pairValues)*18*2 {
		t.Error("only", pairs, "pairs")
	}
}

func TestPairsReachTheValueFromAnywhere(t *testing.T) {
	d := dice(14)
	for _, place := range somePlaces[:len(somePlaces)-1] {
		for _, value := range pairValues {
			eachPairing(1+d.below(31), place, func(p pairing) {
				p.check(t, value)
				p.check(t, place+value%1000000)
				p.check(t, d.below(2000000001)-1000000000)
			})
		}
	}
}

// A lui hangs on no place, so that it reaches from the last one, too.
func TestPairsWithoutAPlace(t *testing.T) {
	for _, value := range pairValues {
		for _, r := range hartRows {
			if takesLower(r) {
				p := pairingOf("lui", r, 5, lastPlace)
				p.behind = 0
				p.check(t, value)
			}
		}
	}
}

// What two instructions make up is what a processor that carries them out finds in the register.
func TestPairsThatAreCarriedOut(t *testing.T) {
	addi := hartRows[impl.OpAddi-1]
	for _, first := range []string{"lui", "auipc"} {
		for _, place := range somePlaces[:len(somePlaces)-1] {
			for _, value := range pairValues {
				p := pairingOf(first, addi, 7, place)
				h, m := impl.Hart{Pc: place}, impl.Memory{}
				for i, x := range []impl.Instr{p.first, p.second} {
					word, _ := impl.ApplyReloc(wordOf(x), []int{p.firstKind, p.secondKind}[i], value, place+4*i)
					x, _ = impl.Decode(word)
					h, m, _ = impl.ExecInstr(h, m, x)
				}
				if got := h.Regs[p.second.Rd]; got != value || h.Pc != place+8 {
					t.Errorf("%s and addi at %d leave %d, not %d", first, place, got, value)
				}
			}
		}
	}
}

// farValues answers values about what a form reaches from a place, on both sides.
func farValues(form formRow, place int) []int {
	list := slices.Concat(aboutEach(place, place+form.low, place+form.high, place+form.low/2, place+form.high/2, place+2*form.low, place-2*form.low), []int{-farthestValue, farthestValue})
	for at := range 20 {
		list = append(list, place+form.low+form.step*at*at, place+form.high-form.step*at*at)
	}
	return list
}

func TestJumpsAndBranchesGoToTheValue(t *testing.T) {
	rows := 0
	for _, r := range hartRows {
		kind := impl.RelJal
		if r.shape.Form == 4 {
			kind = impl.RelBranch
		} else if r.name != "jal" {
			continue
		}
		rows++
		form := formTable[r.shape.Form]
		for n, place := range somePlaces {
			word := wordOf(knownInstrs[r.op-1][n*7%len(knownInstrs[r.op-1])])
			for _, value := range farValues(form, place) {
				checkGoes(t, word, kind, value, place, form)
			}
		}
	}
	if rows != 7 {
		t.Error("of 7 operations that go anywhere only", rows)
	}
}

// checkGoes relocates a jump or a branch, and asks where it goes then.
func checkGoes(t *testing.T, word, kind, value, place int, form formRow) {
	t.Helper()
	away := value - place
	want := codeUnless(away >= form.low && away <= form.high && away%2 == 0, impl.ErrReach)
	moved, code := impl.ApplyReloc(word, kind, value, place)
	if code != want || code != impl.OK && moved != 0 {
		t.Errorf("%#x at %d, value %d: %#x, %d, not %d", word, place, value, moved, code, want)
	}
	if want != impl.OK {
		return
	}
	if got, code := impl.TargetOf(moved, place); got != value || code != impl.OK {
		t.Errorf("%#x at %d goes to %d, %d, not %d", moved, place, got, code, value)
	}
}

func checkTrampoline(t *testing.T, from, to int) {
	t.Helper()
	word, code := impl.Trampoline(from, to)
	if want := wordOf(impl.Instr{Op: impl.OpJal, Imm: to - from}); word != want || code != impl.OK {
		t.Errorf("Trampoline(%d, %d) = %#x, %d, not %#x", from, to, word, code, want)
	}
	if got, code := impl.TargetOf(word, from); got != to || code != impl.OK {
		t.Errorf("the trampoline at %d goes to %d, %d, not %d", from, got, code, to)
	}
}

// All places are in reach of each other: the farthest are 1048572 bytes apart, and a jal goes 1048574 bytes ahead.
func TestTrampolinesGoToTheirPlace(t *testing.T) {
	for _, from := range somePlaces {
		for _, to := range somePlaces {
			checkTrampoline(t, from, to)
		}
	}
	d := dice(15)
	for range 5000 {
		checkTrampoline(t, 4*d.below(lastPlace/4+1), 4*d.below(lastPlace/4+1))
	}
}

func TestTrampolinesOfNoPlace(t *testing.T) {
	for _, wrong := range slices.Concat(wrongPlaces, []int{lastPlace + 1, lastPlace + 2, lastPlace + 3, lastPlace + 4, lastPlace + 8}) {
		for _, other := range slices.Concat(somePlaces, []int{wrong, wrong + 4, -wrong, leastInt, greatestInt, 1048576, -4, 2}) {
			if word, code := impl.Trampoline(wrong, other); word != 0 || code != impl.ErrRange {
				t.Errorf("Trampoline(%d, %d) = %#x, %d", wrong, other, word, code)
			}
			if word, code := impl.Trampoline(other, wrong); word != 0 || code != impl.ErrRange {
				t.Errorf("Trampoline(%d, %d) = %#x, %d", other, wrong, word, code)
			}
		}
	}
}

// targetByRule is what TargetOf must answer.
func targetByRule(word, place int) (int, int) {
	if !isWord(word) || !isPlace(place) {
		return 0, impl.ErrRange
	}
	x := instrOfWord(word)
	if x.Op == 0 {
		return 0, impl.ErrCode
	}
	if r := hartRows[x.Op-1]; r.name != "jal" && r.shape.Form != 4 {
		return 0, impl.ErrKind
	}
	return place + x.Imm, impl.OK
}

func checkTarget(t *testing.T, word, place int) {
	t.Helper()
	got, code := impl.TargetOf(word, place)
	if want, wantCode := targetByRule(word, place); got != want || code != wantCode {
		t.Errorf("TargetOf(%#x, %d) = %d, %s, not %d, %s", word, place, got, impl.CodeWord(code), want, impl.CodeWord(wantCode))
	}
}

func TestTargets(t *testing.T) {
	for text, away := range map[string]int{"jal x0 8": 8, "jal x1 -8": -8, "jal x31 1048574": 1048574, "jal x1 -1048576": -1048576, "beq x1 x2 4094": 4094, "bgeu x0 x0 -4096": -4096, "bne x5 x5 2": 2, "blt x1 x2 0": 0, "bge x9 x8 -2": -2, "bltu x3 x4 100": 100} {
		for _, place := range somePlaces {
			// It goes there, too, where no instruction may stand.
			if got, code := impl.TargetOf(wordOf(named("%s", text)), place); got != place+away || code != impl.OK {
				t.Errorf("%s at %d goes to %d, %d", text, place, got, code)
			}
		}
	}
}

func TestTargetsInTheOrderOfCodes(t *testing.T) {
	for _, word := range someWordsOfAll() {
		for _, place := range slices.Concat(somePlaces, wrongPlaces) {
			checkTarget(t, word, place)
		}
	}
	d := dice(16)
	for range 10000 {
		x := anyOf(&d, hartRows[d.below(10)])
		checkTarget(t, wordOf(x), 4*d.below(lastPlace/4+1))
	}
	right := []int{wordOf(named("bne x1 x2 16")), 4096}
	wrong := []struct{ part, v, code int }{
		{0, -1, impl.ErrRange}, {0, 4294967296, impl.ErrRange}, {0, right[0] + 1<<32, impl.ErrRange}, {1, -4, impl.ErrRange}, {1, 4098, impl.ErrRange}, {1, 1048576, impl.ErrRange},
		{0, 0, impl.ErrCode}, {0, greatWord, impl.ErrCode}, {0, wordOf(named("jalr x0 x1 0")), impl.ErrKind}, {0, wordOf(named("auipc x1 0")), impl.ErrKind},
	}
	checkFaults(t, right, func(v []int) (int, int) { return impl.TargetOf(v[0], v[1]) }, wrong)
}

// pairByRule is what PairAddress must answer.
func pairByRule(first, second, place int) (int, int) {
	if !isWord(first) || !isWord(second) || !isPlace(place) {
		return 0, impl.ErrRange
	}
	x, y := instrOfWord(first), instrOfWord(second)
	if x.Op == 0 || y.Op == 0 {
		return 0, impl.ErrCode
	}
	r, behind := hartRows[x.Op-1], hartRows[y.Op-1]
	if r.shape.Form != 1 || !takesLower(behind) && behind.shape.Form != 5 || x.Rd != y.Rs1 {
		return 0, impl.ErrKind
	}
	if r.name == "auipc" {
		return place + x.Imm + y.Imm, impl.OK
	}
	return x.Imm + y.Imm, impl.OK
}

func checkPairAddress(t *testing.T, first, second, place int) {
	t.Helper()
	got, code := impl.PairAddress(first, second, place)
	if want, wantCode := pairByRule(first, second, place); got != want || code != wantCode {
		t.Errorf("PairAddress(%#x, %#x, %d) = %d, %s, not %d, %s", first, second, place, got, impl.CodeWord(code), want, impl.CodeWord(wantCode))
	}
}

// withRegisters answers an instruction of a row whose registers, those that it has, are all the same one.
func withRegisters(r opRow, register int) impl.Instr {
	x := impl.Instr{Op: r.op}
	for _, field := range []struct {
		name string
		at   *int
	}{{"rd", &x.Rd}, {"rs1", &x.Rs1}, {"rs2", &x.Rs2}} {
		if len(fieldEdges(r, field.name)) > 1 {
			*field.at = register
		}
	}
	return x
}

func TestPairsOfEachTwoOperations(t *testing.T) {
	for _, register := range []int{0, 1, 17, 31} {
		for _, first := range hartRows {
			for _, second := range hartRows {
				word := wordOf(withRegisters(first, register))
				checkPairAddress(t, word, wordOf(withRegisters(second, register)), 8200)
				checkPairAddress(t, word, wordOf(withRegisters(second, register^1)), 8200)
				checkPairAddress(t, word, wordOf(withRegisters(second, register^16)), 8200)
			}
		}
	}
}

// The register that both have in common is Rd of the first one and Rs1 of the second one alone.
func TestPairsByEachRegister(t *testing.T) {
	for _, name := range []string{"lui", "auipc"} {
		for rd := range 32 {
			for rs1 := range 32 {
				first := wordOf(named("%s x%d 4096", name, rd))
				checkPairAddress(t, first, wordOf(named("ld x%d x%d 5", rd, rs1)), 4096)
				checkPairAddress(t, first, wordOf(named("addi x%d x%d -5", rs1, rs1)), 4096)
				checkPairAddress(t, first, wordOf(named("sb x%d x%d 5", rd, rs1)), 4096)
			}
		}
	}
}

func TestPairsInTheOrderOfCodes(t *testing.T) {
	words := someWordsOfAll()
	for _, first := range words {
		for _, second := range words {
			for _, place := range []int{0, 4096, lastPlace, -4, 4098, 1048575, 1048576, leastInt, greatestInt} {
				checkPairAddress(t, first, second, place)
			}
		}
	}
	right := []int{wordOf(named("lui x5 4096")), wordOf(named("sd x6 x5 8")), 4096}
	wrong := []struct{ part, v, code int }{
		{0, -1, impl.ErrRange}, {0, 4294967296, impl.ErrRange}, {0, right[0] + 1<<32, impl.ErrRange}, {1, -1, impl.ErrRange}, {1, 4294967296, impl.ErrRange}, {1, right[1] + 1<<32, impl.ErrRange},
		{2, -4, impl.ErrRange}, {2, 4098, impl.ErrRange}, {2, 1048576, impl.ErrRange}, {2, leastInt, impl.ErrRange},
		{0, 0, impl.ErrCode}, {1, 0, impl.ErrCode}, {0, greatWord, impl.ErrCode}, {1, greatWord, impl.ErrCode},
		{0, wordOf(named("addi x5 x0 8")), impl.ErrKind}, {0, wordOf(named("jal x5 8")), impl.ErrKind}, {0, wordOf(named("lui x6 4096")), impl.ErrKind},
		{1, wordOf(named("jalr x5 x5 8")), impl.ErrKind}, {1, wordOf(named("add x5 x5 x5")), impl.ErrKind}, {1, wordOf(named("slli x5 x5 8")), impl.ErrKind}, {1, wordOf(named("sd x5 x7 8")), impl.ErrKind}, {1, wordOf(named("beq x5 x5 8")), impl.ErrKind},
	}
	checkFaults(t, right, func(v []int) (int, int) { return impl.PairAddress(v[0], v[1], v[2]) }, wrong)
}

// The sum of both numbers is told as it is, beyond what a value may be, too.
func TestPairsAtTheirFarthest(t *testing.T) {
	for _, p := range []struct {
		first, second string
		place, want   int
	}{
		{"lui x5 2147479552", "addi x5 x5 2047", 8, 2147481599}, {"lui x5 -2147483648", "addi x5 x5 -2048", 8, -2147485696},
		{"auipc x5 2147479552", "sb x5 x5 2047", lastPlace, 2148530171}, {"auipc x5 -2147483648", "lbu x0 x5 -2048", 0, -2147485696},
		{"auipc x0 4096", "addi x0 x0 -2048", 100, 2148}, {"lui x0 4096", "sw x0 x0 -1", 100, 4095},
	} {
		if got, code := impl.PairAddress(wordOf(named("%s", p.first)), wordOf(named("%s", p.second)), p.place); got != p.want || code != impl.OK {
			t.Errorf("%s, %s at %d: %d, %d, not %d", p.first, p.second, p.place, got, code, p.want)
		}
	}
}
