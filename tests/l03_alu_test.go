package tests

import (
	"math/big"
	"slices"
	"strings"
	"testing"

	"loop.example/g00654/impl"
)

const (
	leastHalf    = -1 << 31
	greatestHalf = 1<<31 - 1
)

// aluInts has the numbers that chapter 4 names, and what lies beside them.
var aluInts = []int{
	leastInt, leastInt + 1, leastInt + 7, -1 << 62, -0x0123456789abcdef,
	-1<<32 - 1, -1 << 32, -1<<32 + 1, leastHalf - 1, leastHalf, leastHalf + 1,
	-65, -64, -63, -33, -32, -31, -7, -3, -2, -1, 0, 1, 2, 3, 7, 16, 30, 31, 32, 33, 62, 63, 64, 65, 95, 96, 127, 128,
	1 << 16, greatestHalf - 1, greatestHalf, greatestHalf + 1, greatestHalf + 2, 1<<32 - 2, 1<<32 - 1, 1 << 32, 1<<32 + 1, 1<<32 + 31, 1<<33 + 5,
	0x5555555555555555, 0x0123456789abcdef, 1 << 62, greatestInt - 1, greatestInt,
}

// computed has each operation that Compute makes, with the one of two registers that it does as.
const computed = `addi add
slti slt
sltiu sltu
xori xor
ori or
andi and
slli sll
srli srl
srai sra
add add
sub sub
sll sll
slt slt
sltu sltu
xor xor
srl srl
sra sra
or or
and and
addiw addw
slliw sllw
srliw srlw
sraiw sraw
addw addw
subw subw
sllw sllw
srlw srlw
sraw sraw
mul mul
mulh mulh
mulhsu mulhsu
mulhu mulhu
div div
divu divu
rem rem
remu remu
mulw mulw
divw divw
divuw divuw
remw remw
remuw remuw`

// opByName has the Op of each name of the document's table.
var opByName = func() map[string]int {
	ops := map[string]int{}
	for _, r := range opRows() {
		ops[r.name] = r.op
	}
	return ops
}()

// power answers 2 to the n.
func power(n int) *big.Int { return new(big.Int).Lsh(big.NewInt(1), uint(n)) }

// unsigned answers the lowest count bits of v as a number without a sign.
func unsigned(v *big.Int, count int) *big.Int { return new(big.Int).Mod(v, power(count)) }

// signed answers the lowest count bits of v as a number with a sign.
func signed(v *big.Int, count int) *big.Int {
	out := unsigned(v, count)
	if out.Cmp(power(count-1)) >= 0 {
		out.Sub(out, power(count))
	}
	return out
}

// upper answers the upper 64 bits of 128, rounded down below 0.
func upper(v *big.Int) *big.Int { return new(big.Int).Rsh(v, 64) }

// divided answers quotient and rest by the document's words: by 0 they are -1 and a.
func divided(a, b *big.Int) (*big.Int, *big.Int) {
	if b.Sign() == 0 {
		return big.NewInt(-1), a
	}
	return new(big.Int).QuoRem(a, b, new(big.Int))
}

// bitwise answers the number each bit of which rule makes of those of a and b.
func bitwise(a, b *big.Int, rule func(x, y uint) uint) *big.Int {
	out := new(big.Int)
	for i := range 64 {
		out.SetBit(out, i, rule(unsigned(a, 64).Bit(i), unsigned(b, 64).Bit(i)))
	}
	return out
}

func one(holds bool) *big.Int {
	if holds {
		return big.NewInt(1)
	}
	return new(big.Int)
}

// computedByRule is what Compute must answer for an operation of two registers, of numbers without bounds.
func computedByRule(name string, x, y int) int {
	base, half := strings.CutSuffix(name, "w")
	size := 64
	if half {
		size = 32
	}
	a, b := signed(big.NewInt(int64(x)), size), signed(big.NewInt(int64(y)), size)
	au, bu := unsigned(a, size), unsigned(b, size)
	by := uint(bu.Uint64() % uint64(size))
	out := new(big.Int)
	switch base {
	case "add":
		out.Add(a, b)
	case "sub":
		out.Sub(a, b)
	case "sll":
		out.Lsh(a, by)
	case "srl":
		out.Rsh(au, by)
	case "sra":
		out.Rsh(a, by)
	case "slt":
		out = one(a.Cmp(b) < 0)
	case "sltu":
		out = one(au.Cmp(bu) < 0)
	case "xor":
		out = bitwise(a, b, func(x, y uint) uint { return (x + y) % 2 })
	case "or":
		out = bitwise(a, b, func(x, y uint) uint { return max(x, y) })
	case "and":
		out = bitwise(a, b, func(x, y uint) uint { return x * y })
	case "mul":
		out.Mul(a, b)
	case "mulh":
		out = upper(out.Mul(a, b))
	case "mulhsu":
		out = upper(out.Mul(a, bu))
	case "mulhu":
		out = upper(out.Mul(au, bu))
	case "div":
		out, _ = divided(a, b)
	case "divu":
		out, _ = divided(au, bu)
	case "rem":
		_, out = divided(a, b)
	case "remu":
		_, out = divided(au, bu)
	default:
		panic(name)
	}
	return int(signed(out, size).Int64())
}

func TestComputeOfEachOperation(t *testing.T) {
	ops := 0
	for line := range strings.Lines(computed) {
		names := strings.Fields(line)
		op := opByName[names[0]]
		ops++
		for _, a := range aluInts {
			for _, b := range aluInts {
				want := computedByRule(names[1], a, b)
				if got, code := impl.Compute(op, a, b); got != want || code != impl.OK {
					t.Fatalf("%s of %d and %d is %d, %d, not %d", names[0], a, b, got, code, want)
				}
			}
		}
	}
	if ops != 41 {
		t.Error("there are", ops, "operations")
	}
}

func TestComputeOfSmallNumbers(t *testing.T) {
	for line := range strings.Lines(computed) {
		names := strings.Fields(line)
		op := opByName[names[0]]
		for a := -20; a <= 20; a++ {
			for b := -20; b <= 20; b++ {
				want := computedByRule(names[1], a, b)
				if got, code := impl.Compute(op, a, b); got != want || code != impl.OK {
					t.Fatalf("%s of %d and %d is %d, %d, not %d", names[0], a, b, got, code, want)
				}
			}
		}
	}
}

// aluEdges has the edges that chapter 4 names, with what its words say of each.
var aluEdges = []struct {
	name       string
	a, b, want int
}{
	{"div", leastInt, -1, leastInt}, {"rem", leastInt, -1, 0}, {"divw", leastHalf, -1, leastHalf}, {"remw", leastHalf, -1, 0},
	{"divw", 1 << 31, 1<<32 - 1, leastHalf}, {"remw", 1 << 31, 1<<32 - 1, 0},
	{"divu", leastInt, -1, 0}, {"remu", leastInt, -1, leastInt}, {"divuw", leastHalf, -1, 0}, {"remuw", leastHalf, -1, leastHalf},
	{"mul", leastInt, -1, leastInt}, {"mulh", leastInt, -1, 0}, {"mulhsu", leastInt, -1, leastInt}, {"mulhu", leastInt, -1, greatestInt}, {"mulw", leastHalf, -1, leastHalf},
	{"mulhsu", -1, leastInt, -1}, {"mulh", leastInt, leastInt, 1 << 62}, {"mulhsu", leastInt, leastInt, -1 << 62}, {"mulhu", leastInt, leastInt, 1 << 62},
	{"mulh", greatestInt, greatestInt, 1<<62 - 1}, {"mulhsu", greatestInt, greatestInt, 1<<62 - 1}, {"mulhu", greatestInt, greatestInt, 1<<62 - 1},
	{"mulh", leastInt, greatestInt, -1 << 62}, {"mulhsu", greatestInt, leastInt, 1<<62 - 1}, {"mulh", -1, 1, -1}, {"mulhsu", 1, -1, 0}, {"mulhu", 1, -1, 0}, {"mulhu", -1, -1, -2},
	{"div", 9, 0, -1}, {"div", 0, 0, -1}, {"div", leastInt, 0, -1}, {"rem", 9, 0, 9}, {"rem", -9, 0, -9}, {"rem", leastInt, 0, leastInt}, {"rem", 0, 0, 0},
	{"divu", 9, 0, -1}, {"divu", -9, 0, -1}, {"remu", 9, 0, 9}, {"remu", -9, 0, -9},
	{"divw", 9, 0, -1}, {"divw", 9, 1 << 32, -1}, {"remw", 9, 0, 9}, {"remw", 1<<32 + 9, 0, 9}, {"remw", 1<<31 + 9, 1 << 33, leastHalf + 9},
	{"divuw", 9, 0, -1}, {"divuw", 0, 0, -1}, {"divuw", 9, -1 << 32, -1}, {"remuw", 9, 0, 9}, {"remuw", 1<<32 - 9, 0, -9}, {"remuw", 1 << 31, 0, leastHalf},
	{"div", -7, 2, -3}, {"rem", -7, 2, -1}, {"div", 7, -2, -3}, {"rem", 7, -2, 1}, {"div", -7, -2, 3}, {"rem", -7, -2, -1}, {"divw", -7, 2, -3}, {"remw", -7, 2, -1}, {"divw", 7, -2, -3}, {"remw", 7, -2, 1},
	{"divu", -1, 1, -1}, {"divu", -7, 2, greatestInt - 3}, {"remu", -7, 2, 1}, {"divuw", -7, 2, greatestHalf - 3}, {"remuw", -7, 2, 1}, {"divuw", -1, 1, -1},
	{"sll", 3, 0, 3}, {"sll", 1, 31, 1 << 31}, {"sll", 1, 32, 1 << 32}, {"sll", 1, 63, leastInt}, {"sll", 3, 64, 3}, {"sll", 1, -1, leastInt}, {"sll", 1, -64, 1}, {"sll", 1, leastInt, 1},
	{"srl", -1, 0, -1}, {"srl", -1, 31, 1<<33 - 1}, {"srl", -1, 32, 1<<32 - 1}, {"srl", -1, 63, 1}, {"srl", -1, 64, -1}, {"srl", -1, -1, 1},
	{"sra", leastInt, 0, leastInt}, {"sra", leastInt, 31, -1 << 32}, {"sra", leastInt, 32, leastHalf}, {"sra", leastInt, 63, -1}, {"sra", leastInt, 64, leastInt}, {"sra", leastInt, -1, -1},
	{"sllw", 1, 31, leastHalf}, {"sllw", 3, 32, 3}, {"sllw", 3, 63, leastHalf}, {"sllw", 3, 64, 3}, {"sllw", 1, -1, leastHalf}, {"sllw", 1<<32 + 5, 0, 5}, {"sllw", 1 << 30, 1, leastHalf},
	{"srlw", 1 << 31, 0, leastHalf}, {"srlw", -1, 31, 1}, {"srlw", -1, 32, -1}, {"srlw", -1, 63, 1}, {"srlw", -1, 64, -1}, {"srlw", -1, -1, 1}, {"srlw", 1 << 32, 1, 0}, {"srlw", -1, 1, greatestHalf},
	{"sraw", 1 << 31, 0, leastHalf}, {"sraw", 1 << 31, 31, -1}, {"sraw", 1 << 31, 32, leastHalf}, {"sraw", 1 << 31, 63, -1}, {"sraw", 1 << 31, -1, -1}, {"sraw", 1 << 32, 1, 0}, {"sraw", greatestHalf, 30, 1},
	{"addw", greatestHalf, 1, leastHalf}, {"addw", 1<<32 - 1, 1, 0}, {"addw", 1 << 31, 0, leastHalf}, {"subw", leastHalf, 1, greatestHalf}, {"subw", 0, 1 << 31, leastHalf}, {"mulw", 1 << 16, 1 << 15, leastHalf}, {"mulw", 1<<32 + 3, 5, 15},
	{"add", greatestInt, 1, leastInt}, {"sub", leastInt, 1, greatestInt}, {"sub", 0, leastInt, leastInt}, {"mul", 1 << 32, 1 << 31, leastInt}, {"mul", 1 << 32, 1 << 32, 0},
	{"slt", leastInt, greatestInt, 1}, {"slt", greatestInt, leastInt, 0}, {"slt", 5, 5, 0}, {"slt", -1, 0, 1}, {"sltu", leastInt, greatestInt, 0}, {"sltu", 0, -1, 1}, {"sltu", -1, 0, 0}, {"sltu", -2, -1, 1}, {"sltu", -1, -1, 0}, {"sltu", 0, 1, 1},
	{"addi", 5, -1, 4}, {"slti", -1, 0, 1}, {"sltiu", 5, -1, 1}, {"sltiu", 0, 1, 1}, {"xori", 5, -1, -6}, {"ori", 5, -2048, -2043}, {"andi", -1, 2047, 2047},
	{"slli", 1, 63, leastInt}, {"srli", -1, 63, 1}, {"srai", -1, 63, -1}, {"addiw", greatestHalf, 1, leastHalf}, {"addiw", 1 << 31, 0, leastHalf}, {"slliw", 1, 31, leastHalf}, {"srliw", -1, 31, 1}, {"sraiw", 1 << 31, 31, -1},
	// A number may be handed in that no instruction has.
	{"addi", greatestInt, greatestInt, -2}, {"slli", 1, 64, 1}, {"slli", 1, -1, leastInt}, {"slliw", 1, 32, 1}, {"sraiw", leastHalf, 63, -1},
}

func TestComputeAtTheEdges(t *testing.T) {
	for _, e := range aluEdges {
		if got, code := impl.Compute(opByName[e.name], e.a, e.b); got != e.want || code != impl.OK {
			t.Errorf("%s of %d and %d is %d, %d, not %d", e.name, e.a, e.b, got, code, e.want)
		}
	}
}

func TestWordOf(t *testing.T) {
	for _, v := range append(someInts, aluInts...) {
		if got := impl.WordOf(v); got != signByBits(v, 32) {
			t.Errorf("WordOf(%d) = %d", v, got)
		}
	}
	for _, row := range [][2]int{{greatestHalf, greatestHalf}, {greatestHalf + 1, leastHalf}, {greatestHalf + 2, leastHalf + 1}, {1<<32 - 1, -1}, {1 << 32, 0}, {1<<32 + 1, 1}, {leastHalf, leastHalf}, {leastHalf - 1, greatestHalf}, {leastInt, 0}, {greatestInt, -1}} {
		if got := impl.WordOf(row[0]); got != row[1] {
			t.Errorf("WordOf(%d) = %d", row[0], got)
		}
	}
}

// eachPair calls check with all pairs of aluInts.
func eachPair(check func(a, b int)) {
	for _, a := range aluInts {
		for _, b := range aluInts {
			check(a, b)
		}
	}
}

func TestBelowU(t *testing.T) {
	eachPair(func(a, b int) {
		want := unsigned(big.NewInt(int64(a)), 64).Cmp(unsigned(big.NewInt(int64(b)), 64)) < 0
		if got := impl.BelowU(a, b); got != want {
			t.Errorf("BelowU(%d, %d) = %v", a, b, got)
		}
	})
	if impl.BelowU(-1, 0) || !impl.BelowU(greatestInt, leastInt) || impl.BelowU(-1, -1) || !impl.BelowU(-2, -1) {
		t.Error("numbers below 0 are not taken without a sign")
	}
}

// joined answers the number of 128 bits that two halves are, the upper one with its sign.
func joined(upper, lower int) *big.Int {
	out := new(big.Int).Lsh(big.NewInt(int64(upper)), 64)
	return out.Add(out, unsigned(big.NewInt(int64(lower)), 64))
}

// compute answers what Compute makes where it must be right.
func compute(t *testing.T, name string, a, b int) int {
	t.Helper()
	got, code := impl.Compute(opByName[name], a, b)
	if code != impl.OK {
		t.Fatalf("%s of %d and %d: %d", name, a, b, code)
	}
	return got
}

func TestHalvesOfProductsFitOneAnother(t *testing.T) {
	eachPair(func(a, b int) {
		sa, sb := big.NewInt(int64(a)), big.NewInt(int64(b))
		ua, ub := unsigned(sa, 64), unsigned(sb, 64)
		lower := compute(t, "mul", a, b)
		if joined(compute(t, "mulh", a, b), lower).Cmp(new(big.Int).Mul(sa, sb)) != 0 {
			t.Errorf("mulh and mul of %d and %d do not fit", a, b)
		}
		if joined(compute(t, "mulhsu", a, b), lower).Cmp(new(big.Int).Mul(sa, ub)) != 0 {
			t.Errorf("mulhsu and mul of %d and %d do not fit", a, b)
		}
		product := new(big.Int).Mul(ua, ub)
		if unsigned(joined(compute(t, "mulhu", a, b), lower), 128).Cmp(product) != 0 {
			t.Errorf("mulhu and mul of %d and %d do not fit", a, b)
		}
		if up, low := impl.MulWide(a, b); low != lower || unsigned(joined(up, low), 128).Cmp(product) != 0 {
			t.Errorf("MulWide(%d, %d) = %d, %d", a, b, up, low)
		}
	})
}

// checkDivided asks that quotient times divisor and rest are what was divided, and that the rest is nearer to 0 than the divisor, with the sign of what was divided.
func checkDivided(t *testing.T, what string, a, b, quotient, rest *big.Int) {
	t.Helper()
	sum := new(big.Int).Mul(quotient, b)
	if sum.Add(sum, rest).Cmp(a) != 0 || rest.CmpAbs(b) >= 0 || rest.Sign() != 0 && rest.Sign() != a.Sign() {
		t.Errorf("%s: %d by %d is %d, rest %d", what, a, b, quotient, rest)
	}
}

func TestQuotientTimesDivisorAndRest(t *testing.T) {
	for _, size := range []int{64, 32} {
		end := map[int]string{64: "", 32: "w"}[size]
		eachPair(func(x, y int) {
			a, b := signed(big.NewInt(int64(x)), size), signed(big.NewInt(int64(y)), size)
			if b.Sign() == 0 {
				return
			}
			quotient, rest := big.NewInt(int64(compute(t, "div"+end, x, y))), big.NewInt(int64(compute(t, "rem"+end, x, y)))
			if least := new(big.Int).Neg(power(size - 1)); a.Cmp(least) == 0 && b.Cmp(big.NewInt(-1)) == 0 {
				// The quotient has no place among numbers with a sign: it is told modulo 2 to the size.
				quotient.Neg(quotient)
			}
			checkDivided(t, "div"+end, a, b, quotient, rest)
			quotient, rest = big.NewInt(int64(compute(t, "divu"+end, x, y))), big.NewInt(int64(compute(t, "remu"+end, x, y)))
			checkDivided(t, "divu"+end, unsigned(a, size), unsigned(b, size), unsigned(quotient, size), unsigned(rest, size))
		})
	}
}

func TestDivideU(t *testing.T) {
	eachPair(func(a, b int) {
		quotient, rest := impl.DivideU(a, b)
		if b == 0 {
			if quotient != -1 || rest != a {
				t.Errorf("DivideU(%d, 0) = %d, %d", a, quotient, rest)
			}
			return
		}
		ua, ub := unsigned(big.NewInt(int64(a)), 64), unsigned(big.NewInt(int64(b)), 64)
		checkDivided(t, "DivideU", ua, ub, unsigned(big.NewInt(int64(quotient)), 64), unsigned(big.NewInt(int64(rest)), 64))
		if quotient != compute(t, "divu", a, b) || rest != compute(t, "remu", a, b) {
			t.Errorf("DivideU(%d, %d) is not what divu and remu make", a, b)
		}
	})
	for _, row := range [][4]int{{-1, -1, 1, 0}, {-1, 1, -1, 0}, {-2, -1, 0, -2}, {leastInt, -1, 0, leastInt}, {-7, 2, greatestInt - 3, 1}, {0, 0, -1, 0}, {-1, 0, -1, -1}, {100, 7, 14, 2}} {
		if quotient, rest := impl.DivideU(row[0], row[1]); quotient != row[2] || rest != row[3] {
			t.Errorf("DivideU(%d, %d) = %d, %d", row[0], row[1], quotient, rest)
		}
	}
}

// taken answers what Taken tells where it must be right.
func taken(t *testing.T, name string, a, b int) bool {
	t.Helper()
	got, code := impl.Taken(opByName[name], a, b)
	if code != impl.OK {
		t.Fatalf("%s of %d and %d: %d", name, a, b, code)
	}
	return got
}

func TestTakenOfEachBranch(t *testing.T) {
	eachPair(func(a, b int) {
		below := big.NewInt(int64(a)).Cmp(big.NewInt(int64(b))) < 0
		belowU := unsigned(big.NewInt(int64(a)), 64).Cmp(unsigned(big.NewInt(int64(b)), 64)) < 0
		wanted := map[string]bool{"beq": a == b, "bne": a != b, "blt": below, "bge": !below, "bltu": belowU, "bgeu": !belowU}
		for name, want := range wanted {
			if got := taken(t, name, a, b); got != want {
				t.Errorf("%s of %d and %d: %v", name, a, b, got)
			}
		}
	})
}

func TestJustOneOfTwoContraryBranchesGoes(t *testing.T) {
	eachPair(func(a, b int) {
		for _, pair := range [][2]string{{"beq", "bne"}, {"blt", "bge"}, {"bltu", "bgeu"}} {
			if taken(t, pair[0], a, b) == taken(t, pair[1], a, b) {
				t.Errorf("%s and %s of %d and %d", pair[0], pair[1], a, b)
			}
		}
	})
}

func TestWidthsOfLoadsAndStores(t *testing.T) {
	rows := []struct {
		name  string
		width int
		sign  bool
	}{
		{"lb", 1, true}, {"lh", 2, true}, {"lw", 4, true}, {"ld", 8, true}, {"lbu", 1, false}, {"lhu", 2, false}, {"lwu", 4, false},
		{"sb", 1, false}, {"sh", 2, false}, {"sw", 4, false}, {"sd", 8, false},
	}
	for _, r := range rows {
		if width, sign, code := impl.WidthOf(opByName[r.name]); width != r.width || sign != r.sign || code != impl.OK {
			t.Errorf("WidthOf(%s) = %d, %v, %d", r.name, width, sign, code)
		}
	}
}

// kindCode is the code of a call that takes the operations of some names alone.
func kindCode(r opRow, names []string) int {
	if slices.Contains(names, r.name) {
		return impl.OK
	}
	return impl.ErrKind
}

func TestOperationsOfAnotherKind(t *testing.T) {
	var computes []string
	for line := range strings.Lines(computed) {
		computes = append(computes, strings.Fields(line)[0])
	}
	branches := strings.Fields("beq bne blt bge bltu bgeu")
	moves := strings.Fields("lb lh lw ld lbu lhu lwu sb sh sw sd")
	for _, r := range opRows() {
		if got, code := impl.Compute(r.op, 6, 3); code != kindCode(r, computes) || code != impl.OK && got != 0 {
			t.Errorf("Compute of %s: %d, %d", r.name, got, code)
		}
		if got, code := impl.Taken(r.op, 6, 6); code != kindCode(r, branches) || code != impl.OK && got {
			t.Errorf("Taken of %s: %v, %d", r.name, got, code)
		}
		if width, sign, code := impl.WidthOf(r.op); code != kindCode(r, moves) || code != impl.OK && (width != 0 || sign) {
			t.Errorf("WidthOf of %s: %d, %v, %d", r.name, width, sign, code)
		}
	}
}

func TestNumbersThatAreNoOperation(t *testing.T) {
	for _, op := range []int{0, -1, -5, -22, 65, 66, 127, 128, 256 + 31, 1<<32 + 5, 1<<32 + 11, 1<<32 + 31, -1 << 32, leastInt, leastInt + 31, greatestInt} {
		for _, b := range []int{0, 3, -1} {
			if got, code := impl.Compute(op, 6, b); got != 0 || code != impl.ErrRange {
				t.Errorf("Compute(%d, 6, %d) = %d, %d", op, b, got, code)
			}
			if got, code := impl.Taken(op, b, b); got || code != impl.ErrRange {
				t.Errorf("Taken(%d, %d, %d) = %v, %d", op, b, b, got, code)
			}
		}
		if width, sign, code := impl.WidthOf(op); width != 0 || sign || code != impl.ErrRange {
			t.Errorf("WidthOf(%d) = %d, %v, %d", op, width, sign, code)
		}
	}
}
