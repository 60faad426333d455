package tests

import (
	"fmt"
	"maps"
	"slices"
	"strings"
	"testing"

	"loop.example/g00654/impl"
)

var wildInts = []int{leastInt, leastInt + 1, -4294967297, -1, 0, 1, 2, 4, 8, 31, 32, 33, 64, 65, 4294967295, 4294967296, greatestInt - 7, greatestInt}

var wildTexts = []string{"", "a", "ok", "_a9", "00ff", "0", "\xff\x00\x80", "é", "abcdefghijabcdefghij", "abcdefghijabcdefghijk",
	strings.Repeat("0", impl.MaxText), strings.Repeat("0", impl.MaxText+1), strings.Repeat("a", 4*impl.MaxText)}

var wildInstrTexts = []string{"ecall", " addi  x1 x2 -1 ", "addi x1 x2 -01", "lui x5 305418240", "jal x1 999999999999999999", "beq x1", strings.Repeat("sub ", impl.MaxText/4), strings.Repeat(" ", impl.MaxText) + "ecall"}

// wildMemories has memories that are right, and some that are not.
var wildMemories = []impl.Memory{{}, mixedMemory(), fullMemory(), memoryOf(3, 0, lastBase), memoryOf(3, 128, 128), memoryOf(16, 0), memoryOf(3, behind), memoryOf(3, basesFrom(0, 128, 65)...), {Pages: []impl.Page{{Data: "a"}}}}

// answer is all that any of the calls may answer.
type answer struct {
	number int
	second int
	text   string
	yes    bool
	shape  impl.Shape
	instr  impl.Instr
	memory string
	hart   impl.Hart
	code   int
}

func numberAnswer(number, code int) answer { return answer{number: number, code: code} }

func textAnswer(text string, code int) answer { return answer{text: text, code: code} }

// bytesCalls hands out each call of chapters 1 and 2 with each of the wild arguments.
func bytesCalls() []func() answer {
	var calls []func() answer
	add := func(call func() answer) { calls = append(calls, call) }
	for _, text := range wildTexts {
		add(func() answer { return answer{yes: impl.NameOK(text)} })
		add(func() answer { return answer{number: impl.CodeOf(text)} })
		add(func() answer { return answer{number: impl.SumOf(text)} })
		add(func() answer { return answer{text: impl.HexOf(text)} })
		add(func() answer { return textAnswer(impl.BytesOf(text)) })
		for _, at := range wildInts {
			for _, n := range wildInts {
				add(func() answer { return numberAnswer(impl.TakeLittle(text, at, n)) })
			}
		}
	}
	for _, a := range wildInts {
		add(func() answer { return answer{text: impl.CodeWord(a)} })
		for _, b := range wildInts {
			add(func() answer { return numberAnswer(impl.SignOf(a, b)) })
			add(func() answer { return textAnswer(impl.PutLittle(a, b)) })
			for _, c := range wildInts {
				add(func() answer { return numberAnswer(impl.FieldOf(a, b, c)) })
				add(func() answer { return numberAnswer(impl.PutField(a, b, c, -1)) })
			}
		}
	}
	return calls
}

func instrAnswer(x impl.Instr, code int) answer { return answer{instr: x, code: code} }

func shapeAnswer(shape impl.Shape, code int) answer { return answer{shape: shape, code: code} }

// codeCalls hands out each call of chapter 3 with each of the wild arguments.
func codeCalls() []func() answer {
	var calls []func() answer
	add := func(call func() answer) { calls = append(calls, call) }
	for _, text := range append(wildInstrTexts, wildTexts...) {
		add(func() answer { return answer{number: impl.OpOf(text)} })
		add(func() answer { return instrAnswer(impl.ReadInstr(text)) })
	}
	for _, a := range wildInts {
		add(func() answer { return answer{text: impl.OpName(a)} })
		add(func() answer { return shapeAnswer(impl.ShapeOf(a)) })
		add(func() answer { return instrAnswer(impl.Decode(a)) })
	}
	for _, x := range wildInstrs() {
		add(func() answer { return answer{yes: impl.InstrOK(x)} })
		add(func() answer { return numberAnswer(impl.Encode(x)) })
		add(func() answer { return textAnswer(impl.InstrText(x)) })
	}
	return calls
}

// wildInstrs answers instructions, most of them wrong: each number of a base at each of the wild ones.
func wildInstrs() []impl.Instr {
	var list []impl.Instr
	for op := -1; op <= 66; op++ {
		list = append(list, impl.Instr{Op: op}, impl.Instr{Op: op, Rd: 1, Rs1: 2, Rs2: 3, Imm: 4})
		for _, v := range wildInts {
			list = append(list, impl.Instr{Op: op, Rd: v}, impl.Instr{Op: op, Rs1: v}, impl.Instr{Op: op, Rs2: v}, impl.Instr{Op: op, Imm: v}, impl.Instr{Op: op, Rd: v, Rs1: v, Rs2: v, Imm: v})
		}
	}
	for _, op := range wildInts {
		list = append(list, impl.Instr{Op: op})
	}
	return list
}

func pairAnswer(number, second int) answer { return answer{number: number, second: second} }

func yesAnswer(yes bool, code int) answer { return answer{yes: yes, code: code} }

func widthAnswer(number int, yes bool, code int) answer {
	return answer{number: number, yes: yes, code: code}
}

// aluCalls hands out each call of chapter 4 with each of the wild arguments.
func aluCalls() []func() answer {
	var calls []func() answer
	add := func(call func() answer) { calls = append(calls, call) }
	ops := slices.Clone(wildInts)
	for op := -2; op <= 66; op++ {
		ops = append(ops, op)
	}
	for _, op := range ops {
		add(func() answer { return widthAnswer(impl.WidthOf(op)) })
	}
	for _, a := range wildInts {
		add(func() answer { return answer{number: impl.WordOf(a)} })
		for _, b := range wildInts {
			add(func() answer { return answer{yes: impl.BelowU(a, b)} })
			add(func() answer { return pairAnswer(impl.MulWide(a, b)) })
			add(func() answer { return pairAnswer(impl.DivideU(a, b)) })
			for _, op := range ops {
				add(func() answer { return numberAnswer(impl.Compute(op, a, b)) })
				add(func() answer { return yesAnswer(impl.Taken(op, a, b)) })
			}
		}
	}
	return calls
}

// memoryText answers a text that tells each thing of a memory, the empty text of none.
func memoryText(m impl.Memory) string {
	if len(m.Pages) == 0 {
		return ""
	}
	return fmt.Sprint(m.Pages)
}

// asItWas takes the answer of a call that answers the memory as it was with some codes; there that memory counts as nothing.
func asItWas(given impl.Memory, codes ...int) func(m impl.Memory, code int) answer {
	return func(m impl.Memory, code int) answer {
		text := memoryText(m)
		if slices.Contains(codes, code) {
			text = strings.TrimPrefix(text, memoryText(given))
		}
		return answer{memory: text, code: code}
	}
}

// memoryCalls hands out each call of chapter 5 with each of the wild arguments.
func memoryCalls() []func() answer {
	var calls []func() answer
	add := func(call func() answer) { calls = append(calls, call) }
	for _, m := range wildMemories {
		add(func() answer { return answer{yes: impl.MemoryOK(m)} })
		for _, other := range wildMemories {
			add(func() answer { return answer{yes: impl.SameMemory(m, other)} })
		}
		for _, a := range append([]int{128, 4096, 16384, lastBase}, wildInts...) {
			add(func() answer { return numberAnswer(impl.FetchAt(m, a)) })
			for _, text := range wildTexts {
				add(func() answer { return asItWas(m, impl.ErrPage)(impl.PutBytes(m, a, text)) })
			}
			for _, b := range wildInts {
				add(func() answer { return asItWas(m, impl.ErrClash, impl.ErrFull)(impl.AddPage(m, a, b)) })
				add(func() answer { return asItWas(m, impl.ErrPage)(impl.SetPerm(m, a, b)) })
				add(func() answer { return textAnswer(impl.GetBytes(m, a, b)) })
				for _, stack := range []bool{false, true} {
					add(func() answer { return numberAnswer(impl.LoadAt(m, a, b, stack)) })
					add(func() answer {
						return asItWas(m, impl.ErrAlign, impl.ErrPage, impl.ErrPerm, impl.ErrStack)(impl.StoreAt(m, a, b, a-b, stack))
					})
				}
			}
		}
	}
	return calls
}

// wildHarts has processors that are right, and some that are not.
func wildHarts() []impl.Hart {
	list := []impl.Hart{{}, placedHart(4096), numberHart(16384, 4), hartWith(lastBase, leastInt, greatestInt, -8, lastBase)}
	for _, v := range wildInts {
		list = append(list, hartWith(v, v), impl.Hart{Pc: v, Regs: [32]int{v}})
	}
	return list
}

// hartAsItWas takes the answer of a call that answers processor and memory as they were with a fault; there they count as nothing.
func hartAsItWas(h impl.Hart, m impl.Memory) func(got impl.Hart, after impl.Memory, code int) answer {
	return func(got impl.Hart, after impl.Memory, code int) answer {
		out := asItWas(m, hartFaults...)(after, code)
		if out.hart = got; slices.Contains(hartFaults, code) && got == h {
			out.hart = impl.Hart{}
		}
		return out
	}
}

// hartFaults has the codes with which a step leaves all as it was.
var hartFaults = []int{impl.ErrAlign, impl.ErrPage, impl.ErrPerm, impl.ErrStack, impl.ErrEcall, impl.ErrBreak, impl.ErrCode}

// ranAnswer takes the answer of RunHart; with a fault what it has come to counts as done.
func ranAnswer(h impl.Hart, m impl.Memory, went, code int) answer {
	out := answer{number: went, memory: memoryText(m), hart: h, code: code}
	if slices.Contains(hartFaults, code) {
		out.code, out.second = impl.OK, code
	}
	return out
}

// hartCalls hands out each call of chapter 6 with each of the wild arguments.
func hartCalls() []func() answer {
	var calls []func() answer
	add := func(call func() answer) { calls = append(calls, call) }
	instrs := wildInstrs()
	for i, h := range wildHarts() {
		add(func() answer { return answer{yes: impl.HartOK(h)} })
		for _, a := range wildInts {
			add(func() answer { return answer{hart: impl.NewHart(h.Pc, a)} })
			for _, b := range wildInts {
				add(func() answer {
					got, code := impl.SetReg(h, a, b)
					return answer{hart: got, code: code}
				})
			}
		}
		for _, m := range append([]impl.Memory{hartMemory()}, wildMemories...) {
			add(func() answer { return hartAsItWas(h, m)(impl.StepHart(h, m)) })
			for _, n := range append([]int{1000, 1001}, wildInts...) {
				add(func() answer { return ranAnswer(impl.RunHart(h, m, n)) })
			}
			for j := i; j < len(instrs); j += 17 {
				add(func() answer { return hartAsItWas(h, m)(impl.ExecInstr(h, m, instrs[j])) })
			}
		}
	}
	return calls
}

// lintFaults has the codes with which LintFunction and InstrsOf name an instruction.
var lintFaults = []int{impl.ErrCode, impl.ErrFrame, impl.ErrEnd, impl.ErrReturn, impl.ErrJump, impl.ErrCall, impl.ErrReg}

// whereAnswer takes an answer that may name an instruction; where it may, that counts as done.
func whereAnswer(where, code int) answer {
	if slices.Contains(lintFaults, code) {
		return answer{number: where, second: code}
	}
	return answer{number: where, code: code}
}

// listAnswer takes the answer of a call that answers a list.
func listAnswer[E any](list []E, code int) answer {
	if len(list) == 0 {
		return answer{code: code}
	}
	return answer{text: fmt.Sprint(list), code: code}
}

// wildRuns has runs of words, some right, and texts that are none.
func wildRuns() []string {
	whole := wordsOf(twoTails().list)
	runs := []string{whole, whole[:20], whole[:19], whole[4:], wordsOf(functionOf(64, listed("jal x1 -8\njal x1 -12\nbeq x0 x1 -8")...).list), wordsOf(sampleRun(64)), wordsOf(sampleRun(65)), "\x00\x00\x00\x00", whole + "\xff\xff\xff\xff", strings.Repeat("\x13", impl.MaxText)}
	return append(runs, wildTexts...)
}

// lintCalls hands out each call of chapter 7 with each of the wild arguments.
func lintCalls() []func() answer {
	var calls []func() answer
	add := func(call func() answer) { calls = append(calls, call) }
	for _, a := range append(slices.Clone(allFrames), wildInts...) {
		add(func() answer { return answer{yes: impl.FrameOK(a)} })
		add(func() answer { return listAnswer(impl.Prologue(a)) })
		add(func() answer { return listAnswer(impl.Epilogue(a)) })
	}
	instrs := wildInstrs()
	for n := 0; n <= len(instrs); n += 1 + n/2 {
		add(func() answer { return textAnswer(impl.WordsOf(instrs[:n])) })
		add(func() answer { return textAnswer(impl.WordsOf(instrs[len(instrs)-n:])) })
		add(func() answer { return textAnswer(impl.WordsOf(sampleRun(n % 100))) })
	}
	for _, run := range wildRuns() {
		add(func() answer {
			list, where, code := impl.InstrsOf(run)
			out := whereAnswer(where, code)
			out.text = listAnswer(list, code).text
			return out
		})
		for _, a := range append([]int{4096, 1048572}, wildInts...) {
			add(func() answer { return listAnswer(impl.CallsOf(run, a)) })
			add(func() answer { return numberAnswer(impl.PhaseOf(run, a)) })
			for _, frame := range append([]int{16, 64, 128}, wildInts...) {
				add(func() answer { return whereAnswer(impl.LintFunction(run, a, frame, wildInts)) })
				add(func() answer { return whereAnswer(impl.LintFunction(run, a, frame, make([]int, 4097))) })
				add(func() answer { return whereAnswer(impl.LintFunction(run, a, frame, nil)) })
			}
		}
	}
	return calls
}

// wildImages has images that are right, and some that are not.
func wildImages() []impl.Image {
	list := append(rightImages(), impl.Image{Code: strings.Repeat("a", impl.MaxText+1)}, impl.Image{Symbols: make([]impl.Symbol, 5000)})
	for _, s := range imageSpoilers() {
		im := mixedImage()
		s.spoil(&im)
		list = append(list, im)
	}
	for _, v := range wildInts {
		for n := range 7 {
			list = append(list, withSymbol(mixedImage(), n, func(y *impl.Symbol) { y.At = v }), withSymbol(mixedImage(), n, func(y *impl.Symbol) { y.Size = v }))
			list = append(list, withSymbol(mixedImage(), n, func(y *impl.Symbol) { *y = impl.Symbol{Name: y.Name, Kind: y.Kind, At: v, Size: v, Frame: v} }))
		}
		list = append(list, withSymbol(mixedImage(), 0, func(y *impl.Symbol) { y.Frame = v }), withSymbol(mixedImage(), 1, func(y *impl.Symbol) { y.Kind = v }))
	}
	return list
}

// imageAnswer takes an answer that is an image.
func imageAnswer(im impl.Image, code int) answer {
	if emptyImage(im) {
		return answer{code: code}
	}
	return answer{text: fmt.Sprint(im), code: code}
}

// imageCalls hands out each call of chapter 8 with each of the images, and with wild arguments beside it.
func imageCalls(images []impl.Image) []func() answer {
	var calls []func() answer
	add := func(call func() answer) { calls = append(calls, call) }
	for _, im := range images {
		add(func() answer {
			// A fault is told beside the numbers of what is not right.
			n, where, fault := impl.LintImage(im)
			return answer{text: fmt.Sprint(n, where, fault)}
		})
		add(func() answer { return answer{yes: impl.ImageOK(im)} })
		add(func() answer { return textAnswer(impl.ImageText(im)) })
		add(func() answer {
			m, code := impl.LoadImage(im)
			return answer{memory: memoryText(m), code: code}
		})
		for _, v := range wildInts {
			add(func() answer { return numberAnswer(impl.AddressOf(im, v)) })
			add(func() answer {
				n, off, code := impl.SymbolAt(im, 4096+v)
				return answer{number: n, second: off, code: code}
			})
		}
		for _, name := range append([]string{"f0", "d2"}, wildTexts...) {
			add(func() answer { return numberAnswer(impl.SymbolNamed(im, name)) })
		}
		if len(im.Code) <= codeLimit && len(im.Symbols) <= 255 {
			body := bodyByRule(im)
			for n := 0; n <= len(body); n += 1 + n/9 {
				add(func() answer { return imageAnswer(impl.ReadImage(summed(body[:n]))) })
			}
			add(func() answer { return imageAnswer(impl.ReadImage(summed(body))) })
		}
	}
	for _, text := range append([]string{"PIM1", "PIM1abcd", summed("PIM1"), summed("PIM1" + strings.Repeat("\xff", 60000))}, wildTexts...) {
		add(func() answer { return imageAnswer(impl.ReadImage(text)) })
	}
	for _, v := range append([]int{3, 5}, wildInts...) {
		add(func() answer { return numberAnswer(impl.StackTop(v)) })
	}
	return calls
}

// wildObjects has objects that are right, and some that are not.
func wildObjects() []impl.Object {
	list, wrong := rightObjects(), wrongObjects()
	for _, what := range slices.Sorted(maps.Keys(wrong)) {
		list = append(list, wrong[what])
	}
	for _, v := range wildInts {
		list = append(list, withReloc(impl.Reloc{Unit: v, At: v, Kind: v, Symbol: "s", Addend: v}))
		list = append(list, withReloc(impl.Reloc{Unit: 1, At: v, Kind: 1, Symbol: "s"}), withReloc(impl.Reloc{Unit: v, At: 0, Kind: 9, Symbol: "s"}))
		list = append(list, changed(smallObject(), func(o *impl.Object) { o.Depth = v }), changed(smallObject(), func(o *impl.Object) { o.Funcs[0].Frame = v }))
		list = append(list, changed(mixedObject(), func(o *impl.Object) { o.Shadows[1].Id = v }), changed(mixedObject(), func(o *impl.Object) { o.Relocs[4].Addend = v }))
	}
	for _, text := range wildTexts {
		list = append(list, changed(smallObject(), func(o *impl.Object) { o.Funcs[0].Code = text }), changed(mixedObject(), func(o *impl.Object) { o.Datas[1].Bytes = text }))
		list = append(list, changed(mixedObject(), func(o *impl.Object) { o.Datas[1].Name = text }), changed(mixedObject(), func(o *impl.Object) { o.Relocs[1].Symbol = text }))
	}
	return list
}

// objectAnswer takes an answer that is an object.
func objectAnswer(o impl.Object, code int) answer {
	if emptyObject(o) {
		return answer{code: code}
	}
	return answer{text: fmt.Sprint(o), code: code}
}

// objectTextCalls hands out ReadObject with the objects' texts, cut off and spoiled, and with wild ones.
func objectTextCalls(objects []impl.Object) []func() answer {
	var calls []func() answer
	add := func(text string) {
		calls = append(calls, func() answer { return objectAnswer(impl.ReadObject(text)) })
	}
	for _, o := range objects {
		body := bodyOfObject(o)
		if len(body) > impl.MaxText {
			continue
		}
		for n := 0; n <= len(body); n += 1 + n/5 {
			add(summed(body[:n]))
			add(summed(body[:n] + "\xff\xff" + body[n:]))
		}
		add(summed(body))
	}
	for _, text := range append([]string{"POB1", "POB1abcd", summed("POB1"), summed("POB1" + strings.Repeat("\xff", 60000)), summed("POB1" + strings.Repeat("\x01", 65000))}, wildTexts...) {
		add(text)
	}
	return calls
}

// objectCalls hands out each call of chapter 9 with each of the objects, and with wild arguments beside it.
func objectCalls(objects []impl.Object) []func() answer {
	calls := objectTextCalls(objects)
	add := func(call func() answer) { calls = append(calls, call) }
	for i, o := range objects {
		add(func() answer {
			// A fault is told beside the number of what is not right.
			n, fault := impl.LintObject(o)
			return answer{text: fmt.Sprint(n, fault)}
		})
		add(func() answer { return answer{yes: impl.ObjectOK(o)} })
		add(func() answer { return textAnswer(impl.ObjectText(o)) })
		add(func() answer { return listAnswer(impl.AddedNames(o)) })
		add(func() answer { return listAnswer(impl.ReplacedNames(o)) })
		for _, v := range wildInts {
			add(func() answer { return numberAnswer(impl.UnitSize(o, v)) })
		}
		for j := i % 5; j < len(objects); j += 5 {
			add(func() answer { return answer{yes: impl.SameObject(o, objects[j])} })
		}
	}
	return calls
}

// relocCalls hands out each call of chapter 10 with each of the wild arguments.
func relocCalls() []func() answer {
	var calls []func() answer
	add := func(call func() answer) { calls = append(calls, call) }
	for _, text := range append(slices.Clone(relocNames), wildTexts...) {
		add(func() answer { return answer{number: impl.RelocOf(text)} })
	}
	numbers := append([]int{3, 5, 6, 7, 9, 4096, lastPlace}, wildInts...)
	words := slices.Concat(wildInts, someWordsOfAll())
	for _, a := range numbers {
		add(func() answer { return answer{text: impl.RelocName(a)} })
		add(func() answer {
			upper, lower, code := impl.SplitAddress(a)
			return answer{number: upper, second: lower, code: code}
		})
		for _, b := range numbers {
			add(func() answer { return numberAnswer(impl.Trampoline(a, b)) })
		}
		for _, word := range words {
			add(func() answer { return numberAnswer(impl.TargetOf(word, a)) })
			add(func() answer { return numberAnswer(impl.PairAddress(word, words[len(words)-1], a)) })
			for n, b := range numbers {
				add(func() answer { return numberAnswer(impl.ApplyReloc(word, a, b, numbers[(n+word&15)%len(numbers)])) })
			}
		}
	}
	for i, first := range words {
		for j := i % 3; j < len(words); j += 3 {
			add(func() answer { return numberAnswer(impl.PairAddress(first, words[j], 4096)) })
		}
	}
	return calls
}

// wildTables has tables that are right, and some that are not.
func wildTables() [][]impl.Entry {
	list, wrong := rightTables(), wrongTables()
	for _, what := range slices.Sorted(maps.Keys(wrong)) {
		list = append(list, wrong[what])
	}
	for _, v := range wildInts {
		for n := range 3 {
			list = append(list, withEntry(n, func(e *impl.Entry) { e.At = v }), withEntry(n, func(e *impl.Entry) { e.Size, e.Owner = v, v }))
		}
	}
	return append(list, make([]impl.Entry, impl.MaxList+1))
}

// wildCases has what can be linked, and what can not.
func wildCases(objects []impl.Object) []linkCase {
	var list []linkCase
	for i, table := range wildTables() {
		list = append(list, linkCase{table, systemCase().code, systemCase().data, objects[i%len(objects)]}, linkCase{table, systemCase().code, systemCase().data, systemObject()})
	}
	for _, a := range slices.Concat(rightAreas(), wrongAreas()) {
		list = append(list, linkCase{systemTable(), a, systemCase().data, systemObject()}, linkCase{systemTable(), systemCase().code, a, systemObject()})
	}
	for _, o := range objects {
		list = append(list, linkCase{systemTable(), systemCase().code, systemCase().data, o})
	}
	for _, s := range slices.Concat(nameSpoilers(), roomSpoilers(), relocFaults(), builtSpoilers(), callSpoilers()) {
		list = append(list, spoiledBy(s))
	}
	d := dice(25)
	for range 200 {
		list = append(list, anyLinkCase(&d))
	}
	return list
}

// linkedAnswer takes an answer that is what was linked.
func linkedAnswer(got linkAnswer) answer {
	if got.is(linkAnswer{fault: got.fault}) {
		return answer{code: got.fault}
	}
	return answer{text: got.String(), code: got.fault}
}

// areaCalls hands out AreaOK and PlaceIn with wild arguments.
func areaCalls() []func() answer {
	var calls []func() answer
	for _, a := range slices.Concat(rightAreas(), wrongAreas()) {
		calls = append(calls, func() answer { return answer{yes: impl.AreaOK(a)} })
		for _, n := range wildInts {
			calls = append(calls, func() answer {
				next, at, code := impl.PlaceIn(a, n)
				if code == impl.ErrFull && next == a {
					next = impl.Area{}
				}
				return answer{memory: strings.TrimPrefix(fmt.Sprint(next), "{0 0 0}"), number: at, code: code}
			})
		}
	}
	return calls
}

// linkCalls hands out each call of chapter 11 with each of the cases, and with wild arguments beside it.
func linkCalls(cases []linkCase, images []impl.Image) []func() answer {
	calls := areaCalls()
	add := func(call func() answer) { calls = append(calls, call) }
	for _, im := range images {
		add(func() answer { return listAnswer(impl.ImageTable(im)) })
	}
	names := append([]string{"main", "e3", "_", longestName}, wildTexts...)
	for i, c := range cases {
		add(func() answer { return answer{yes: impl.TableOK(c.table)} })
		add(func() answer { return numberAnswer(impl.FindEntry(c.table, names[i%len(names)])) })
		add(func() answer { return numberAnswer(impl.EntryAt(c.table, wildInts[i%len(wildInts)])) })
		add(func() answer { return numberAnswer(impl.EntryAt(c.table, 4096)) })
		add(func() answer { return linkedAnswer(c.link()) })
		other := cases[(i+7)%len(cases)]
		for _, l := range []impl.Linked{linkedOf(c.object), linkedOf(other.object), {Ats: wildInts, Codes: wildTexts}} {
			add(func() answer { return listAnswer(impl.TableWith(c.table, c.object, l, 1+i%6)) })
			add(func() answer { return listAnswer(impl.TableWith(c.table, c.object, l, wildInts[i%len(wildInts)])) })
			add(func() answer { return answer{yes: impl.SameLinked(l, linkedOf(c.object))} })
		}
	}
	return calls
}

// wildShadows has lists of shadow variables that are right, and some that are not.
func wildShadows() [][]impl.Shadow {
	list, wrong := rightShadows(), wrongShadows()
	for _, what := range slices.Sorted(maps.Keys(wrong)) {
		list = append(list, wrong[what])
	}
	for _, v := range wildInts {
		list = append(list, []impl.Shadow{{Object: v, Id: 7, Value: v}}, []impl.Shadow{{Object: v, Id: v}, {Object: v, Id: v + 1}})
	}
	return append(list, make([]impl.Shadow, impl.MaxList+1))
}

// listedShadows takes an answer of chapter 12; with the codes that leave the list as it was it counts as nothing.
func listedShadows(given []impl.Shadow, got shadowAnswer) answer {
	if slices.Contains([]int{impl.ErrClash, impl.ErrFull, impl.ErrNone}, got.code) && slices.Equal(got.list, given) {
		got.list = nil
	}
	out := listAnswer(got.list, got.code)
	out.number = got.number
	return out
}

// shadowListCalls hands out each call of chapter 12 with each of the lists, and with wild arguments beside it.
func shadowListCalls(lists [][]impl.Shadow) []func() answer {
	var calls []func() answer
	add := func(call func() answer) { calls = append(calls, call) }
	for i, list := range lists {
		add(func() answer { return answer{yes: impl.ShadowsOK(list)} })
		for j := i % 9; j < len(lists); j += 9 {
			add(func() answer { return answer{yes: impl.SameShadows(list, lists[j])} })
		}
		asks := fewAsks(list)
		for n, v := range wildInts {
			asks = append(asks, shadowAsk{v, v, v}, shadowAsk{v, 9, -v}, shadowAsk{wildInts[(n+i)%len(wildInts)], n % 3, v})
		}
		for _, ask := range asks {
			for _, c := range shadowCalls() {
				add(func() answer { return listedShadows(list, c.call(list, ask)) })
			}
		}
	}
	return calls
}

// wildMachines has machines that are right, and some that are not.
func wildMachines() []impl.Machine {
	list, wrong, parts := rightMachines(), wrongMachines(), spoiledParts()
	for _, what := range slices.Sorted(maps.Keys(wrong)) {
		list = append(list, wrong[what])
	}
	for n, what := range slices.Sorted(maps.Keys(parts)) {
		if n%40 == 0 {
			list = append(list, parts[what])
		}
	}
	for n, v := range wildInts {
		m := asking(standing(hartWith(4096, v), "ecall"), 1, 1+n%10, v, 7, v)
		list = append(list, m, rethreaded(m, 1, func(x *impl.Thread) { x.Hart.Pc = v }), asking(m, 1, v, v, v, v), asking(m, 1, impl.SysSpawn, v, v, v), asking(m, 1, impl.SysGetOr, 7, v, 1))
	}
	return list
}

// machineText answers a text that tells each thing of a machine, the empty text of none.
func machineText(m impl.Machine) string {
	if emptyMachine(m) {
		return ""
	}
	return fmt.Sprint(m)
}

// machineAsItWas takes the answer of a call that answers the machine as it was with some codes; there that machine counts as nothing.
func machineAsItWas(given, got impl.Machine, n, code int) answer {
	if slices.Contains([]int{impl.ErrNone, impl.ErrDone}, code) && sameMachines(given, got) {
		got = impl.Machine{}
	}
	return answer{memory: machineText(got), number: n, code: code}
}

// wholeMachineCalls hands out each call of chapter 13 with each of the machines, and with wild arguments beside it.
func wholeMachineCalls(machines []impl.Machine, images []impl.Image) []func() answer {
	var calls []func() answer
	add := func(call func() answer) { calls = append(calls, call) }
	for i := 0; i < len(images); i += 3 {
		add(func() answer {
			m, code := impl.NewMachine(images[i])
			return answer{memory: machineText(m), code: code}
		})
	}
	for i, m := range machines {
		add(func() answer { return answer{yes: impl.MachineOK(m)} })
		add(func() answer { return listAnswer(impl.RunningOf(m)) })
		for j := i % 9; j < len(machines); j += 9 {
			add(func() answer { return answer{yes: impl.SameMachine(m, machines[j])} })
		}
		for _, v := range []int{0, 1, 2, 3, 4, 40, 41, wildInts[i%len(wildInts)]} {
			for _, name := range slices.Sorted(maps.Keys(machineCalls)) {
				add(func() answer {
					got, n, code := machineCalls[name](m, v)
					return machineAsItWas(m, got, n, code)
				})
			}
		}
	}
	return calls
}

// A panic in a call fails the test by itself.
func TestAlikeArgumentsHaveAlikeAnswers(t *testing.T) {
	images, objects := wildImages(), wildObjects()
	cases, shadows, machines := wildCases(objects), wildShadows(), wildMachines()
	calls := slices.Concat(bytesCalls(), codeCalls(), aluCalls(), memoryCalls(), hartCalls(), lintCalls(), imageCalls(images), objectCalls(objects), relocCalls(), linkCalls(cases, images), shadowListCalls(shadows), wholeMachineCalls(machines, images))
	given := fmt.Sprint(wildMemories, images, objects, cases, shadows, machines)
	first := make([]answer, len(calls))
	for i, call := range calls {
		first[i] = call()
		if got := first[i]; got.code != impl.OK && got != (answer{code: got.code}) {
			t.Errorf("call %d answers something beside the code %d", i, got.code)
		}
	}
	for i := len(calls) - 1; i >= 0; i-- {
		if calls[i]() != first[i] {
			t.Errorf("call %d answers something else behind other calls", i)
		}
	}
	if fmt.Sprint(wildMemories, images, objects, cases, shadows, machines) != given {
		t.Error("a call changes a memory, an image, an object, a table, a list or a machine that it was given")
	}
}
