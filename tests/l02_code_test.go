package tests

import (
	"fmt"
	"slices"
	"strconv"
	"strings"
	"testing"

	"loop.example/g00654/impl"
)

// opTable is the document's table of operations: constant's number, name, form, Code, F3, F7.
const opTable = `1 lui 1 55 0 0
2 auipc 1 23 0 0
3 jal 2 111 0 0
4 jalr 3 103 0 0
5 beq 4 99 0 0
6 bne 4 99 1 0
7 blt 4 99 4 0
8 bge 4 99 5 0
9 bltu 4 99 6 0
10 bgeu 4 99 7 0
11 lb 3 3 0 0
12 lh 3 3 1 0
13 lw 3 3 2 0
14 ld 3 3 3 0
15 lbu 3 3 4 0
16 lhu 3 3 5 0
17 lwu 3 3 6 0
18 sb 5 35 0 0
19 sh 5 35 1 0
20 sw 5 35 2 0
21 sd 5 35 3 0
22 addi 3 19 0 0
23 slti 3 19 2 0
24 sltiu 3 19 3 0
25 xori 3 19 4 0
26 ori 3 19 6 0
27 andi 3 19 7 0
28 slli 6 19 1 0
29 srli 6 19 5 0
30 srai 6 19 5 32
31 add 8 51 0 0
32 sub 8 51 0 32
33 sll 8 51 1 0
34 slt 8 51 2 0
35 sltu 8 51 3 0
36 xor 8 51 4 0
37 srl 8 51 5 0
38 sra 8 51 5 32
39 or 8 51 6 0
40 and 8 51 7 0
41 addiw 3 27 0 0
42 slliw 7 27 1 0
43 srliw 7 27 5 0
44 sraiw 7 27 5 32
45 addw 8 59 0 0
46 subw 8 59 0 32
47 sllw 8 59 1 0
48 srlw 8 59 5 0
49 sraw 8 59 5 32
50 mul 8 51 0 1
51 mulh 8 51 1 1
52 mulhsu 8 51 2 1
53 mulhu 8 51 3 1
54 div 8 51 4 1
55 divu 8 51 5 1
56 rem 8 51 6 1
57 remu 8 51 7 1
58 mulw 8 59 0 1
59 divw 8 59 4 1
60 divuw 8 59 5 1
61 remw 8 59 6 1
62 remuw 8 59 7 1
63 ecall 9 115 0 0
64 ebreak 9 115 0 1`

// opRow is a row of the document's table of operations.
type opRow struct {
	op    int
	name  string
	shape impl.Shape
}

func opRows() []opRow {
	var rows []opRow
	for line := range strings.Lines(opTable) {
		var r opRow
		fmt.Sscan(line, &r.op, &r.name, &r.shape.Form, &r.shape.Code, &r.shape.F3, &r.shape.F7)
		rows = append(rows, r)
	}
	return rows
}

// formRow is what the document says of a form: its text's fields, its number's bounds and step, and where the bits stand in the word.
type formRow struct {
	told            string
	low, high, step int
	stands          string
}

// formTable has the forms at their own places; in stands, each part is a field, its lowest and its highest bit, and where they lie.
var formTable = []formRow{
	{},
	{"rd imm", -2147483648, 2147479552, 4096, "rd 0 4 7, imm 12 31 12"},
	{"rd imm", -1048576, 1048574, 2, "rd 0 4 7, imm 12 19 12, imm 11 11 20, imm 1 10 21, imm 20 20 31"},
	{"rd rs1 imm", -2048, 2047, 1, "rd 0 4 7, f3 0 2 12, rs1 0 4 15, imm 0 11 20"},
	{"rs1 rs2 imm", -4096, 4094, 2, "imm 11 11 7, imm 1 4 8, f3 0 2 12, rs1 0 4 15, rs2 0 4 20, imm 5 10 25, imm 12 12 31"},
	{"rs2 rs1 imm", -2048, 2047, 1, "imm 0 4 7, f3 0 2 12, rs1 0 4 15, rs2 0 4 20, imm 5 11 25"},
	{"rd rs1 imm", 0, 63, 1, "rd 0 4 7, f3 0 2 12, rs1 0 4 15, imm 0 5 20, f7 1 6 26"},
	{"rd rs1 imm", 0, 31, 1, "rd 0 4 7, f3 0 2 12, rs1 0 4 15, imm 0 4 20, f7 0 6 25"},
	{"rd rs1 rs2", 0, 0, 1, "rd 0 4 7, f3 0 2 12, rs1 0 4 15, rs2 0 4 20, f7 0 6 25"},
	{"", 0, 0, 1, "f7 0 6 20"},
}

func fieldValues(x impl.Instr) map[string]int {
	return map[string]int{"rd": x.Rd, "rs1": x.Rs1, "rs2": x.Rs2, "imm": x.Imm}
}

func instrOf(op int, values map[string]int) impl.Instr {
	return impl.Instr{Op: op, Rd: values["rd"], Rs1: values["rs1"], Rs2: values["rs2"], Imm: values["imm"]}
}

// wordByBits is what Encode must answer, bit by bit.
func wordByBits(r opRow, x impl.Instr) int {
	values := fieldValues(x)
	values["f3"], values["f7"] = r.shape.F3, r.shape.F7
	word := r.shape.Code
	for part := range strings.SplitSeq(formTable[r.shape.Form].stands, ", ") {
		var field string
		var low, high, at int
		fmt.Sscan(part, &field, &low, &high, &at)
		for i := low; i <= high; i++ {
			word += bitOf(values[field], i) * (1 << (at + i - low))
		}
	}
	return word
}

// instrByBits is the instruction of a row that a word would be, if it is one.
func instrByBits(r opRow, word int) impl.Instr {
	values := map[string]int{}
	form := formTable[r.shape.Form]
	for part := range strings.SplitSeq(form.stands, ", ") {
		var field string
		var low, high, at int
		fmt.Sscan(part, &field, &low, &high, &at)
		for i := low; i <= high; i++ {
			values[field] += bitOf(word, at+i-low) * (1 << i)
		}
	}
	if form.low < 0 && values["imm"] >= -form.low {
		values["imm"] += 2 * form.low
	}
	return instrOf(r.op, values)
}

// textByTable is what InstrText must answer.
func textByTable(r opRow, x impl.Instr) string {
	text := r.name
	values := fieldValues(x)
	for _, field := range strings.Fields(formTable[r.shape.Form].told) {
		if field == "imm" {
			text += fmt.Sprintf(" %d", values[field])
		} else {
			text += fmt.Sprintf(" x%d", values[field])
		}
	}
	return text
}

// fieldEdges answers numbers that a row's field may have, the least and the greatest ahead.
func fieldEdges(r opRow, field string) []int {
	form := formTable[r.shape.Form]
	if !slices.Contains(strings.Fields(form.told), field) {
		return []int{0}
	}
	if field != "imm" {
		return []int{0, 31, 1, 2, 21, 10, 16}
	}
	var edges []int
	for _, v := range []int{form.low, form.high, 0, form.step, form.high - form.step, form.low + form.step, form.high / 3, form.low / 3, -form.step, 5 * form.step} {
		v -= v % form.step
		if v >= form.low && v <= form.high {
			edges = append(edges, v)
		}
	}
	for v := form.step; v <= form.high; v *= 2 {
		edges = append(edges, v)
	}
	return edges
}

// rightInstrs answers right instructions of a row, each field at each of its edges.
func rightInstrs(r opRow) []impl.Instr {
	var list []impl.Instr
	for _, rd := range fieldEdges(r, "rd") {
		for _, rs1 := range fieldEdges(r, "rs1") {
			for _, rs2 := range fieldEdges(r, "rs2") {
				for _, imm := range fieldEdges(r, "imm") {
					list = append(list, impl.Instr{Op: r.op, Rd: rd, Rs1: rs1, Rs2: rs2, Imm: imm})
				}
			}
		}
	}
	return list
}

// wrongInstrs answers instructions of a row with one field that it may not have.
func wrongInstrs(r opRow) []impl.Instr {
	var list []impl.Instr
	form := formTable[r.shape.Form]
	for _, base := range []impl.Instr{{Op: r.op}, rightInstrs(r)[len(rightInstrs(r))-1]} {
		for _, field := range []string{"rd", "rs1", "rs2", "imm"} {
			bad := []int{-1, 32, 33, 64, 256, 1 << 32, leastInt, greatestInt}
			switch {
			case !slices.Contains(strings.Fields(form.told), field):
				bad = append(bad, 1, 2, 31, 4096)
			case field == "imm":
				bad = []int{form.low - 1, form.low - form.step, form.high + 1, form.high + form.step, 2 * form.high, 2*form.low - form.step, 1<<32 + form.step, leastInt, greatestInt}
				if form.step > 1 {
					bad = append(bad, 1, -1, form.step-1, form.step+1, form.step/2, form.high-1, form.low+1)
				}
			}
			for _, v := range bad {
				values := fieldValues(base)
				values[field] = v
				list = append(list, instrOf(r.op, values))
			}
		}
	}
	return list
}

func TestOperationConstants(t *testing.T) {
	ops := []int{impl.OpLui, impl.OpAuipc, impl.OpJal, impl.OpJalr, impl.OpBeq, impl.OpBne, impl.OpBlt, impl.OpBge, impl.OpBltu, impl.OpBgeu,
		impl.OpLb, impl.OpLh, impl.OpLw, impl.OpLd, impl.OpLbu, impl.OpLhu, impl.OpLwu, impl.OpSb, impl.OpSh, impl.OpSw, impl.OpSd,
		impl.OpAddi, impl.OpSlti, impl.OpSltiu, impl.OpXori, impl.OpOri, impl.OpAndi, impl.OpSlli, impl.OpSrli, impl.OpSrai,
		impl.OpAdd, impl.OpSub, impl.OpSll, impl.OpSlt, impl.OpSltu, impl.OpXor, impl.OpSrl, impl.OpSra, impl.OpOr, impl.OpAnd,
		impl.OpAddiw, impl.OpSlliw, impl.OpSrliw, impl.OpSraiw, impl.OpAddw, impl.OpSubw, impl.OpSllw, impl.OpSrlw, impl.OpSraw,
		impl.OpMul, impl.OpMulh, impl.OpMulhsu, impl.OpMulhu, impl.OpDiv, impl.OpDivu, impl.OpRem, impl.OpRemu,
		impl.OpMulw, impl.OpDivw, impl.OpDivuw, impl.OpRemw, impl.OpRemuw, impl.OpEcall, impl.OpEbreak}
	if len(ops) != 64 || len(opRows()) != 64 {
		t.Fatal("the document has 64 operations")
	}
	for i, op := range ops {
		if op != i+1 || opRows()[i].op != i+1 {
			t.Error("the constant of operation", i+1, "is", op)
		}
	}
	forms := []int{impl.FoUpper, impl.FoJump, impl.FoImm, impl.FoBranch, impl.FoStore, impl.FoShift, impl.FoShiftW, impl.FoReg, impl.FoSystem}
	if !slices.Equal(forms, []int{1, 2, 3, 4, 5, 6, 7, 8, 9}) {
		t.Error("forms", forms)
	}
}

func TestShapesAndNames(t *testing.T) {
	for _, r := range opRows() {
		if shape, code := impl.ShapeOf(r.op); shape != r.shape || code != impl.OK {
			t.Error("ShapeOf", r.name, shape, code)
		}
		if got := impl.OpName(r.op); got != r.name {
			t.Errorf("OpName(%d) = %q, want %q", r.op, got, r.name)
		}
		if got := impl.OpOf(r.name); got != r.op {
			t.Errorf("OpOf(%q) = %d, want %d", r.name, got, r.op)
		}
		for _, other := range []string{" " + r.name, r.name + " ", strings.ToUpper(r.name), r.name + "\x00", r.name + r.name, "_" + r.name} {
			if got := impl.OpOf(other); got != 0 {
				t.Errorf("OpOf(%q) = %d", other, got)
			}
		}
	}
	for _, op := range []int{leastInt, -64, -1, 0, 65, 66, 128, 256, 1<<32 + 1, greatestInt} {
		if shape, code := impl.ShapeOf(op); shape != (impl.Shape{}) || code != impl.ErrRange {
			t.Error("ShapeOf", op, shape, code)
		}
		if got := impl.OpName(op); got != "" {
			t.Errorf("OpName(%d) = %q", op, got)
		}
	}
	for _, name := range []string{"", " ", "nop", "x1", "1", "\xff", strings.Repeat("add", impl.MaxText), strings.Repeat("a", impl.MaxText)} {
		if got := impl.OpOf(name); got != 0 {
			t.Errorf("OpOf(%.20q) = %d", name, got)
		}
	}
}

func TestRightInstructionsAreReadBack(t *testing.T) {
	for _, r := range opRows() {
		for _, x := range rightInstrs(r) {
			checkRight(t, r, x)
		}
	}
}

func checkRight(t *testing.T, r opRow, x impl.Instr) {
	t.Helper()
	if !impl.InstrOK(x) {
		t.Errorf("InstrOK(%v) is false", x)
	}
	word, code := impl.Encode(x)
	if want := wordByBits(r, x); word != want || code != impl.OK {
		t.Errorf("Encode(%v) = %#x, %d, want %#x", x, word, code, want)
	}
	if got, code := impl.Decode(word); got != x || code != impl.OK {
		t.Errorf("Decode(%#x) = %v, %d, want %v", word, got, code, x)
	}
	text, code := impl.InstrText(x)
	if want := textByTable(r, x); text != want || code != impl.OK {
		t.Errorf("InstrText(%v) = %q, %d, want %q", x, text, code, want)
	}
	if got, code := impl.ReadInstr(text); got != x || code != impl.OK {
		t.Errorf("ReadInstr(%q) = %v, %d, want %v", text, got, code, x)
	}
}

func TestWrongInstructions(t *testing.T) {
	var list []impl.Instr
	for _, r := range opRows() {
		for _, x := range wrongInstrs(r) {
			list = append(list, x)
			if got, code := impl.ReadInstr(textByTable(r, x)); code == impl.OK && got == x {
				t.Errorf("ReadInstr reads %v", x)
			}
		}
	}
	for _, op := range []int{leastInt, -1, 0, 65, 1<<32 + 22, greatestInt} {
		list = append(list, impl.Instr{Op: op}, impl.Instr{Op: op, Rd: 1, Rs1: 1, Imm: 1})
	}
	for _, x := range list {
		if impl.InstrOK(x) {
			t.Errorf("InstrOK(%v)", x)
		}
		if word, code := impl.Encode(x); word != 0 || code != impl.ErrBad {
			t.Errorf("Encode(%v) = %d, %d", x, word, code)
		}
		if text, code := impl.InstrText(x); text != "" || code != impl.ErrBad {
			t.Errorf("InstrText(%v) = %q, %d", x, text, code)
		}
	}
}

// checkDecode holds Decode of a word against the document's tables.
func checkDecode(t *testing.T, rows []opRow, word int) {
	t.Helper()
	want, wantCode := impl.Instr{}, impl.ErrCode
	for _, r := range rows {
		if r.shape.Code != word%128 {
			continue
		}
		if x := instrByBits(r, word); wordByBits(r, x) == word {
			want, wantCode = x, impl.OK
		}
	}
	got, code := impl.Decode(word)
	if got != want || code != wantCode {
		t.Errorf("Decode(%#x) = %v, %d, want %v, %d", word, got, code, want, wantCode)
	}
	if code == impl.OK {
		if back, code := impl.Encode(got); back != word || code != impl.OK {
			t.Errorf("Encode(%v) = %#x, %d, want %#x", got, back, code, word)
		}
	}
}

func TestDecodeShapes(t *testing.T) {
	rows := opRows()
	for code := range 128 {
		for f3 := range 8 {
			for _, f7 := range []int{0, 1, 2, 16, 31, 32, 33, 63, 64, 65, 96, 127} {
				checkDecode(t, rows, code|f3<<12|f7<<25)
				checkDecode(t, rows, code|f3<<12|f7<<25|21<<7|10<<15|27<<20)
			}
		}
	}
	for _, code := range []int{19, 27, 51, 59} {
		for f3 := range 8 {
			for f7 := range 128 {
				checkDecode(t, rows, code|f3<<12|f7<<25|31<<20)
			}
		}
	}
}

func TestDecodeOneBitOff(t *testing.T) {
	rows := opRows()
	for _, r := range rows {
		word := wordByBits(r, impl.Instr{Op: r.op})
		for i := range 32 {
			checkDecode(t, rows, word^1<<i)
			if _, code := impl.Decode(word ^ 1<<i); r.shape.Form == impl.FoSystem && i >= 7 && i != 20 && code != impl.ErrCode {
				t.Errorf("Decode of %s with bit %d turned: %d", r.name, i, code)
			}
		}
	}
}

func TestDecodeAnyWords(t *testing.T) {
	rows := opRows()
	seed := uint32(2463534242)
	for i := range 40000 {
		seed ^= seed << 13
		seed ^= seed >> 17
		seed ^= seed << 5
		word := int(seed)
		if i%2 == 0 {
			// Half of the words have a Code that is one.
			word = word&^127 | rows[i/2%64].shape.Code
		}
		checkDecode(t, rows, word)
	}
}

func TestDecodeEdges(t *testing.T) {
	for word, want := range map[int]int{leastInt: impl.ErrRange, -1: impl.ErrRange, 0: impl.ErrCode, 1: impl.ErrCode, greatWord: impl.ErrCode,
		greatWord + 1: impl.ErrRange, 1<<32 + 0x13: impl.ErrRange, greatestInt: impl.ErrRange, 0x13: impl.OK, 0x73: impl.OK, 0x100073: impl.OK, 0x8073: impl.ErrCode, 0xf3: impl.ErrCode} {
		if x, code := impl.Decode(word); code != want || code != impl.OK && x != (impl.Instr{}) {
			t.Errorf("Decode(%d) = %v, %d, want %d", word, x, code, want)
		}
	}
}

func TestTextsWithBlanks(t *testing.T) {
	for _, r := range opRows() {
		x := rightInstrs(r)[0]
		words := strings.Fields(textByTable(r, x))
		for _, gap := range []string{" ", "  ", strings.Repeat(" ", 40)} {
			for _, text := range []string{strings.Join(words, gap), gap + strings.Join(words, gap), strings.Join(words, gap) + gap, gap + strings.Join(words, gap) + gap} {
				if got, code := impl.ReadInstr(text); got != x || code != impl.OK {
					t.Errorf("ReadInstr(%q) = %v, %d, want %v", text, got, code, x)
				}
			}
		}
	}
}

func TestWordsTooManyOrTooFew(t *testing.T) {
	for _, r := range opRows() {
		words := strings.Fields(textByTable(r, rightInstrs(r)[0]))
		wrong := []string{strings.Join(words, ""), strings.Join(append([]string{"x0"}, words...), " "), strings.ToUpper(strings.Join(words, " "))}
		if len(words) == 1 {
			wrong = wrong[1:]
		}
		for i := range words {
			wrong = append(wrong, strings.Join(slices.Delete(slices.Clone(words), i, i+1), " "))
			wrong = append(wrong, strings.Join(slices.Insert(slices.Clone(words), i+1, "x0"), " "))
			wrong = append(wrong, strings.Join(slices.Insert(slices.Clone(words), i+1, "0"), " "))
		}
		for _, text := range wrong {
			if got, code := impl.ReadInstr(text); got != (impl.Instr{}) || code != impl.ErrForm {
				t.Errorf("ReadInstr(%q) = %v, %d", text, got, code)
			}
		}
	}
}

func TestTextsOfNumbers(t *testing.T) {
	for word, want := range map[string]int{"0": 0, "7": 7, "-7": -7, "2047": 2047, "-2048": -2048, "10": 10} {
		if got, code := impl.ReadInstr("addi x1 x2 " + word); got != (impl.Instr{Op: impl.OpAddi, Rd: 1, Rs1: 2, Imm: want}) || code != impl.OK {
			t.Errorf("addi x1 x2 %s: %v, %d", word, got, code)
		}
	}
	wrong := []string{"00", "01", "007", "-0", "-00", "-01", "+0", "+7", "--7", "-", "7-", "2048", "-2049", "0x7", "7.", "1e1", "1_0", "x7", "X7", "٣", "\t7", "7\n", "\xa07", "7\x00",
		"18446744073709551617", "9223372036854775808", "-9223372036854775809", "000000000000000000007", strings.Repeat("0", 400), strings.Repeat("9", 400)}
	for _, word := range wrong {
		for _, text := range []string{"addi x1 x2 " + word, "addi x" + word + " x2 0", "addi x1 x" + word + " 0", "add x1 x2 x" + word, "sd x1 x" + word + " 8", "addi " + word + " x2 0"} {
			if strings.HasPrefix(text, "addi x7 ") {
				continue
			}
			if got, code := impl.ReadInstr(text); got != (impl.Instr{}) || code != impl.ErrForm {
				t.Errorf("ReadInstr(%.60q) = %v, %d", text, got, code)
			}
		}
	}
	for number := range 34 {
		_, code := impl.ReadInstr("lui x" + strconv.Itoa(number) + " 4096")
		if want := number <= 31; (code == impl.OK) != want || !want && code != impl.ErrForm {
			t.Errorf("register %d: %d", number, code)
		}
	}
}

func TestTextsThatAreNone(t *testing.T) {
	for _, text := range []string{"", " ", "    ", "nop", "x1", "0", "addi", "addi\tx1 x2 3", "addi x1\nx2 3", "addi x1, x2, 3", "addi x1 x2 3\n", "\x00ecall", "ecall\x00", "ecall ecall",
		"addi x1 x2\u00a03", "addi x1 x2\u20033", "jal 8", "jal x1 x2 8", "lui x1 1", "jal x1 1", "beq x1 x2 3", "slli x1 x2 64", "slliw x1 x2 32", "slli x1 x2 -1"} {
		if got, code := impl.ReadInstr(text); got != (impl.Instr{}) || code != impl.ErrForm {
			t.Errorf("ReadInstr(%q) = %v, %d", text, got, code)
		}
	}
}

func TestTextsThatAreTooLong(t *testing.T) {
	text := "addi x1 x2 3"
	longest := text + strings.Repeat(" ", impl.MaxText-len(text))
	if got, code := impl.ReadInstr(longest); got != (impl.Instr{Op: impl.OpAddi, Rd: 1, Rs1: 2, Imm: 3}) || code != impl.OK {
		t.Error("the longest text", got, code)
	}
	for _, long := range []string{longest + " ", " " + longest, strings.Repeat("a", impl.MaxText+1), strings.Repeat(" ", 4*impl.MaxText)} {
		if got, code := impl.ReadInstr(long); got != (impl.Instr{}) || code != impl.ErrLong {
			t.Errorf("a text of %d bytes: %v, %d", len(long), got, code)
		}
	}
	for _, none := range []string{strings.Repeat("a", impl.MaxText), strings.Repeat(" ", impl.MaxText), strings.Repeat("x ", impl.MaxText/2)} {
		if got, code := impl.ReadInstr(none); got != (impl.Instr{}) || code != impl.ErrForm {
			t.Errorf("a text of %d bytes: %v, %d", len(none), got, code)
		}
	}
}
