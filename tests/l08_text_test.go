package tests

import (
	"fmt"
	"slices"
	"strings"
	"testing"

	"loop.example/g00654/impl"
)

// piece is a part of an object's text; of a bool's byte it is told that it is one.
type piece struct {
	bytes string
	flag  bool
}

// objectPieces has the parts of an object's text but for its sum, by the document's words; the object need not be right.
func objectPieces(o impl.Object) []piece {
	var out []piece
	text := func(t string) { out = append(out, piece{t, false}) }
	number := func(v, n int) { text(littleByBits(v, n)) }
	name := func(t string) {
		number(len(t), 1)
		text(t)
	}
	flag := func(holds bool) { out = append(out, piece{littleByBits(oneIf(holds), 1), true}) }
	text("POB1")
	name(o.Name)
	number(o.Depth, 1)
	number(len(o.Funcs), 1)
	for _, f := range o.Funcs {
		name(f.Name)
		flag(f.Replaces)
		number(f.Frame, 1)
		number(len(f.Code)/4, 1)
		text(f.Code)
	}
	number(len(o.Datas), 1)
	for _, d := range o.Datas {
		name(d.Name)
		name(d.Bytes)
	}
	number(len(o.Relocs), 1)
	for _, r := range o.Relocs {
		number(r.Unit, 1)
		number(r.At, 1)
		number(r.Kind, 1)
		name(r.Symbol)
		number(r.Addend, 4)
	}
	number(len(o.Shadows), 1)
	for _, s := range o.Shadows {
		number(s.Id, 1)
		flag(s.Free)
	}
	return out
}

// bodyOfObject is the text of an object but for its sum.
func bodyOfObject(o impl.Object) string {
	out := ""
	for _, p := range objectPieces(o) {
		out += p.bytes
	}
	return out
}

// flagPlaces answers where in an object's text a bool's byte stands.
func flagPlaces(o impl.Object) []int {
	var out []int
	at := 0
	for _, p := range objectPieces(o) {
		if p.flag {
			out = append(out, at)
		}
		at += len(p.bytes)
	}
	return out
}

// withByte answers a text with another byte at a place.
func withByte(text string, at, b int) string {
	return text[:at] + littleByBits(b, 1) + text[at+1:]
}

func sameObjects(a, b impl.Object) bool {
	return a.Name == b.Name && a.Depth == b.Depth && slices.Equal(a.Funcs, b.Funcs) && slices.Equal(a.Datas, b.Datas) && slices.Equal(a.Relocs, b.Relocs) && slices.Equal(a.Shadows, b.Shadows)
}

func emptyObject(o impl.Object) bool { return sameObjects(o, impl.Object{}) }

// cutter takes a text apart by the document's words.
type cutter struct {
	rest  string
	cut   bool
	wrong bool
}

func (c *cutter) bytes(n int) string {
	if c.cut = c.cut || n > len(c.rest); c.cut {
		return ""
	}
	taken := c.rest[:n]
	c.rest = c.rest[n:]
	return taken
}

func (c *cutter) number(n int) int { return numberByRule(c.bytes(n)) }

func (c *cutter) name() string { return c.bytes(c.number(1)) }

func (c *cutter) flag() bool {
	v := c.number(1)
	c.wrong = c.wrong || v > 1
	return v == 1
}

// times does something as often as the next byte says, but nothing behind the text's end.
func (c *cutter) times(do func()) {
	for n := c.number(1); n > 0 && !c.cut; n-- {
		do()
	}
}

func (c *cutter) object() impl.Object {
	o := impl.Object{Name: c.name(), Depth: c.number(1)}
	c.times(func() {
		f := impl.PatchFunc{Name: c.name(), Replaces: c.flag(), Frame: c.number(1)}
		f.Code = c.bytes(4 * c.number(1))
		o.Funcs = append(o.Funcs, f)
	})
	c.times(func() { o.Datas = append(o.Datas, impl.PatchData{Name: c.name(), Bytes: c.name()}) })
	c.times(func() {
		r := impl.Reloc{Unit: c.number(1), At: c.number(1), Kind: c.number(1), Symbol: c.name()}
		r.Addend = c.number(4)
		if r.Addend > greatestAddend {
			r.Addend -= 1 << 32
		}
		o.Relocs = append(o.Relocs, r)
	})
	c.times(func() { o.Shadows = append(o.Shadows, impl.ShadowDecl{Id: c.number(1), Free: c.flag()}) })
	return o
}

// objectFrom is what ReadObject must answer, by the document's words.
func objectFrom(text string) (impl.Object, int) {
	switch {
	case len(text) > 65536:
		return impl.Object{}, impl.ErrLong
	case len(text) < 8:
		return impl.Object{}, impl.ErrSize
	case text[:4] != "POB1":
		return impl.Object{}, impl.ErrForm
	case text[len(text)-4:] != littleByBits(impl.SumOf(text[:len(text)-4]), 4):
		return impl.Object{}, impl.ErrSum
	}
	c := &cutter{rest: text[4 : len(text)-4]}
	o := c.object()
	switch {
	case c.cut:
		return impl.Object{}, impl.ErrEnd
	case c.rest != "":
		return impl.Object{}, impl.ErrSize
	case c.wrong:
		return impl.Object{}, impl.ErrForm
	}
	if _, code := objectByRule(o); code != impl.OK {
		return impl.Object{}, impl.ErrBad
	}
	return o, impl.OK
}

// checkNoObject asks that a text is refused with a code.
func checkNoObject(t *testing.T, what, text string, code int) {
	t.Helper()
	o, got := impl.ReadObject(text)
	if got != code || !emptyObject(o) {
		t.Errorf("%s: ReadObject of %d bytes: %s, not %s, beside %s", what, len(text), impl.CodeWord(got), impl.CodeWord(code), objectString(o))
	}
}

func TestObjectsAreReadBackFromTheirTexts(t *testing.T) {
	for i, o := range rightObjects() {
		body := bodyOfObject(o)
		text, code := impl.ObjectText(o)
		if code != impl.OK || text != body+littleByBits(sumByRule(body), 4) {
			t.Errorf("object %d: ObjectText = %x, %d", i, text, code)
		}
		got, code := impl.ReadObject(text)
		if code != impl.OK || !sameObjects(got, o) {
			t.Errorf("object %d is read back as %s, %s", i, objectString(got), impl.CodeWord(code))
		}
	}
}

// The texts of two objects byte by byte, as the document tells them.
func TestTextsOfKnownObjects(t *testing.T) {
	code := dataOf(20)
	small := impl.Object{Name: "a", Funcs: []impl.PatchFunc{{Name: "f", Replaces: true, Frame: 16, Code: code}}}
	more := changed(small, func(o *impl.Object) {
		o.Depth, o.Funcs[0].Replaces, o.Funcs[0].Frame = 5, false, 128
		o.Datas = []impl.PatchData{{Name: "dd", Bytes: "12345678"}}
		o.Relocs = []impl.Reloc{{Unit: 0, At: 4, Kind: 8, Symbol: "s", Addend: -2}, {Unit: 1, At: 0, Kind: 9, Symbol: "f", Addend: 0x01020304}}
		o.Shadows = []impl.ShadowDecl{{Id: 9, Free: true}, {Id: 255}}
	})
	for body, o := range map[string]impl.Object{
		"POB1\x01a\x00\x01\x01f\x01\x10\x05" + code + "\x00\x00\x00": small,
		"POB1\x01a\x05\x01\x01f\x00\x80\x05" + code + "\x01\x02dd\x0812345678\x02\x00\x04\x08\x01s\xfe\xff\xff\xff\x01\x00\x09\x01f\x04\x03\x02\x01\x02\x09\x01\xff\x00": more,
	} {
		if text, code := impl.ObjectText(o); text != summed(body) || code != impl.OK {
			t.Errorf("ObjectText of %s = %x, %d", objectString(o), text, code)
		}
		if got, code := impl.ReadObject(summed(body)); !sameObjects(got, o) || code != impl.OK {
			t.Errorf("%s is read back as %s, %d", objectString(o), objectString(got), code)
		}
	}
}

func TestAnyObjectIsReadBack(t *testing.T) {
	d := dice(16)
	for range 3000 {
		o := anyRightObject(&d)
		text, code := impl.ObjectText(o)
		if code != impl.OK || text != summed(bodyOfObject(o)) {
			t.Fatalf("ObjectText of %s: %x, %d", objectString(o), text, code)
		}
		if got, code := impl.ReadObject(text); code != impl.OK || !sameObjects(got, o) {
			t.Fatalf("%s is read back as %s, %s", objectString(o), objectString(got), impl.CodeWord(code))
		}
	}
}

func TestAnotherByteOfAnObjectIsRefused(t *testing.T) {
	for i, o := range rightObjects() {
		text, _ := impl.ObjectText(o)
		for at := range len(text) {
			want := impl.ErrSum
			if at < 4 {
				want = impl.ErrForm
			}
			for _, b := range otherBytes(text[at], i < 2 || len(text) < 120) {
				checkNoObject(t, fmt.Sprint("object ", i, " with the byte ", b, " at ", at), withByte(text, at, int(b)), want)
			}
		}
	}
}

func TestShorterTextsOfObjectsAreRefused(t *testing.T) {
	for i, o := range rightObjects() {
		text, _ := impl.ObjectText(o)
		for n := range len(text) {
			_, want := objectFrom(text[:n])
			if n < 8 && want != impl.ErrSize || want == impl.OK {
				t.Fatal("the model reads a part of a text")
			}
			checkNoObject(t, fmt.Sprint("object ", i, ", the first bytes"), text[:n], want)
			if last := text[len(text)-n:]; n > 0 {
				checkNoObject(t, fmt.Sprint("object ", i, ", the last bytes"), last, []int{impl.ErrForm, impl.ErrSize}[oneIf(n < 8)])
			}
		}
	}
}

// A text that is cut off within each of its parts, and has the right sum.
func TestObjectsThatAreCutOff(t *testing.T) {
	for i, o := range rightObjects() {
		body := bodyOfObject(o)
		for n := range len(body) {
			checkNoObject(t, fmt.Sprint("object ", i, " cut off at ", n), summed(body[:n]), []int{impl.ErrEnd, impl.ErrSize}[oneIf(n < 4)])
		}
	}
}

func TestObjectsWithSomethingLeftOver(t *testing.T) {
	for i, o := range rightObjects() {
		body := bodyOfObject(o)
		text := summed(body)
		for b := range 256 {
			more := littleByBits(b, 1)
			checkNoObject(t, fmt.Sprint("object ", i, " and the byte ", b), summed(body+more), impl.ErrSize)
			checkNoObject(t, fmt.Sprint("object ", i, " and the byte ", b, " without a sum"), text+more, impl.ErrSum)
			checkNoObject(t, fmt.Sprint("object ", i, " behind the byte ", b), summed(more+body), impl.ErrForm)
		}
		for _, more := range []string{"ab", "\x00\x00\x00\x00", text[len(body):], body, text} {
			checkNoObject(t, fmt.Sprint("object ", i, " and more"), summed(body+more), impl.ErrSize)
		}
	}
}

func TestOtherMarksOfObjects(t *testing.T) {
	text := summed(bodyOfObject(mixedObject()))
	for _, mark := range []string{"POB2", "POB0", "PIM1", "pob1", "POb1", "XOB1", "PXB1", "1BOP", "\x00\x00\x00\x00", " POB", "POB\x00"} {
		checkNoObject(t, mark, summed(mark+text[4:len(text)-4]), impl.ErrForm)
		checkNoObject(t, mark+" without a sum", mark+text[4:], impl.ErrForm)
		checkNoObject(t, mark+" alone", mark+"abcd", impl.ErrForm)
		checkNoObject(t, mark+" cut off", mark+"abc", impl.ErrSize)
	}
	checkNoObject(t, "the mark alone", summed("POB1"), impl.ErrEnd)
	checkNoObject(t, "the mark with another sum", "POB1\x00\x00\x00\x00", impl.ErrSum)
	checkNoObject(t, "the mark without a sum", "POB1", impl.ErrSize)
	checkNoObject(t, "7 bytes", "POB1\x00\x00\x00", impl.ErrSize)
	checkNoObject(t, "nothing", "", impl.ErrSize)
	checkNoObject(t, "nothing but counts", summed("POB1\x00\x00\x00\x00\x00\x00"), impl.ErrBad)
	checkNoObject(t, "an image", summed(bodyByRule(mixedImage())), impl.ErrForm)
	if _, code := impl.ReadImage(text); code != impl.ErrForm {
		t.Error("ReadImage of an object's text:", code)
	}
}

func TestSumsOfObjectsThatAreNone(t *testing.T) {
	body := bodyOfObject(mixedObject())
	sum := sumByRule(body)
	for _, other := range []int{sum + 1, sum - 1, sum + 65521, sum + 65536, sum + 1<<24, sum + 1<<31, 0, -1, -sum, greatWord, impl.SumOf(body[4:]), impl.SumOf(body + "\x00")} {
		checkNoObject(t, fmt.Sprint("the sum ", other), body+littleByBits(other, 4), impl.ErrSum)
	}
	little := littleByBits(sum, 4)
	checkNoObject(t, "the highest byte first", body+little[3:]+little[2:3]+little[1:2]+little[:1], impl.ErrSum)
	// The sum is looked at ahead of what stands between.
	flag := flagPlaces(mixedObject())[0]
	for _, other := range []string{"POB1", body + "x", body[:30], withByte(body, flag, 2), bodyOfObject(impl.Object{}), "POB1" + strings.Repeat("\xff", 100)} {
		checkNoObject(t, "another sum", other+littleByBits(impl.SumOf(other)+1, 4), impl.ErrSum)
	}
}

// A bool's byte above 1 is told behind what is cut off or left over, and ahead of what is wrong with the object.
func TestBoolsThatAreNone(t *testing.T) {
	for i, o := range []impl.Object{mixedObject(), fullObject(), without(mixedObject(), "drs"), without(fullObject(), "dr")} {
		body := bodyOfObject(o)
		wrong := changed(o, func(o *impl.Object) { o.Depth = 6 })
		places := flagPlaces(o)
		if len(places) != len(o.Funcs)+len(o.Shadows) {
			t.Fatal("bools at", places)
		}
		for _, at := range places {
			for b := 2; b < 256; b++ {
				checkNoObject(t, fmt.Sprint("object ", i, " with the bool ", b, " at ", at), summed(withByte(body, at, b)), impl.ErrForm)
			}
			for _, b := range []int{2, 3, 128, 254, 255} {
				spoiled := withByte(body, at, b)
				for n := 4; n < len(body); n++ {
					checkNoObject(t, fmt.Sprint("the bool ", b, " at ", at, " cut off at ", n), summed(spoiled[:n]), impl.ErrEnd)
				}
				checkNoObject(t, "a bool and a byte more", summed(spoiled+"\x00"), impl.ErrSize)
				checkNoObject(t, "a bool and much more", summed(spoiled+spoiled), impl.ErrSize)
				checkNoObject(t, "a bool of an object that is not right", summed(withByte(bodyOfObject(wrong), at, b)), impl.ErrForm)
				checkNoObject(t, "a bool and another sum", spoiled+"abcd", impl.ErrSum)
				checkNoObject(t, "a bool and another mark", summed("Q"+spoiled[1:]), impl.ErrForm)
				for _, other := range places {
					checkNoObject(t, "two bools", summed(withByte(spoiled, other, 77)), impl.ErrForm)
				}
			}
		}
	}
}

// A bool is told ahead of each fault of the object, whatever that is.
func TestBoolsOfWrongObjects(t *testing.T) {
	for _, s := range objectSpoilers() {
		o := changed(mixedObject(), s.spoil)
		for _, at := range flagPlaces(o) {
			for _, b := range []int{2, 255} {
				checkNoObject(t, s.what+" and a bool", summed(withByte(bodyOfObject(o), at, b)), impl.ErrForm)
				checkNoObject(t, s.what+", a bool and a byte more", summed(withByte(bodyOfObject(o), at, b)+"\x01"), impl.ErrSize)
			}
		}
	}
}

// What is wrong with an object is told behind all that is wrong with its text.
func TestTextsOfWrongObjects(t *testing.T) {
	for _, s := range objectSpoilers() {
		o := changed(mixedObject(), s.spoil)
		body := bodyOfObject(o)
		if back, code := objectFrom(summed(body)); code == impl.OK {
			// What a byte cannot tell, such as a number of 256, comes back as another one.
			if got, code := impl.ReadObject(summed(body)); !sameObjects(got, back) || code != impl.OK {
				t.Errorf("%s: ReadObject = %s, %d", s.what, objectString(got), code)
			}
			continue
		}
		checkNoObject(t, s.what, summed(body), impl.ErrBad)
		checkNoObject(t, s.what+" and a byte more", summed(body+"x"), impl.ErrSize)
		checkNoObject(t, s.what+" and a byte less", summed(body[:len(body)-1]), impl.ErrEnd)
		checkNoObject(t, s.what+" and another sum", body+"xxxx", impl.ErrSum)
		checkNoObject(t, s.what+" and another mark", summed("Q"+body[1:]), impl.ErrForm)
	}
}

// Texts that hold together, of objects that have more of something than they may.
func TestCountsBeyondWhatAnObjectMayHave(t *testing.T) {
	var list []impl.Object
	add := func(change func(o *impl.Object)) { list = append(list, changed(mixedObject(), change)) }
	for _, n := range []int{5, 6, 100, 255} {
		add(func(o *impl.Object) { o.Funcs, o.Relocs = severalFunctions(n), nil })
		add(func(o *impl.Object) { o.Datas, o.Relocs = severalDatas(n), nil })
		add(func(o *impl.Object) { o.Shadows = severalDecls(n) })
		add(func(o *impl.Object) { o.Relocs = severalRelocs(n + 28) }) // 33 and more
		add(func(o *impl.Object) { o.Depth = n + 1 })
	}
	list = slices.DeleteFunc(list, func(o impl.Object) bool { return len(o.Relocs) > 255 || o.Depth > 255 })
	for _, n := range []int{0, 1, 4, 65, 66, 128, 255} {
		add(func(o *impl.Object) { o.Funcs[1].Code = dataOf(4 * n) })
	}
	for _, n := range []int{0, 1, 7, 9, 65, 72, 128, 255} {
		add(func(o *impl.Object) { o.Datas[1].Bytes = dataOf(n) })
	}
	for _, n := range []int{0, 21, 22, 100, 255} {
		name := strings.Repeat("a", n)
		add(func(o *impl.Object) { o.Name = name })
		add(func(o *impl.Object) { o.Funcs[1].Name = name })
		add(func(o *impl.Object) { o.Datas[1].Name = name })
		add(func(o *impl.Object) { o.Relocs[1].Symbol = name })
	}
	add(func(o *impl.Object) { o.Funcs, o.Relocs = nil, nil })
	for i, o := range list {
		body := bodyOfObject(o)
		checkNoObject(t, fmt.Sprint("object ", i), summed(body), impl.ErrBad)
		checkNoObject(t, fmt.Sprint("object ", i, " and a byte more"), summed(body+"\x00"), impl.ErrSize)
		checkNoObject(t, fmt.Sprint("object ", i, " cut off"), summed(body[:len(body)-1]), impl.ErrEnd)
	}
}

// countPlaces answers where in the text of an object without lists but functions the numbers of its lists stand.
func countPlaces(o impl.Object) (funcs, datas int) {
	return 4 + 1 + len(o.Name) + 1, len(bodyOfObject(without(o, "drs"))) - 3
}

// Counts and lengths that say more, or less, than there is.
func TestCountsBeyondTheEnd(t *testing.T) {
	mixed := mixedObject()
	body := bodyOfObject(mixed)
	relocs := len(bodyOfObject(without(mixed, "rs"))) - 2
	shadows := len(bodyOfObject(without(mixed, "s"))) - 1
	for _, v := range []int{4, 5, 6, 255} {
		checkNoObject(t, fmt.Sprint(v, " Shadows"), summed(withByte(body, shadows, v)), impl.ErrEnd)
	}
	for v := range 3 {
		checkNoObject(t, fmt.Sprint(v, " Shadows"), summed(withByte(body, shadows, v)), impl.ErrSize)
	}
	none := bodyOfObject(without(mixed, "drs"))
	funcs, datas := countPlaces(mixed)
	if funcs != 11 || body[funcs] != 3 || body[datas] != 3 || body[relocs] != 9 || body[shadows] != 3 {
		t.Fatal("counts at", funcs, datas, relocs, shadows)
	}
	for _, v := range []int{4, 5, 17, 64, 255} {
		checkNoObject(t, fmt.Sprint(v, " functions"), summed(withByte(none, funcs, v)), impl.ErrEnd)
		checkNoObject(t, fmt.Sprint(v, " data, nothing there"), summed(withByte(none, datas, v)), impl.ErrEnd)
		checkNoObject(t, fmt.Sprint(v, " relocations, nothing there"), summed(withByte(none, datas+1, v)), impl.ErrEnd)
		checkNoObject(t, fmt.Sprint(v, " Shadows, nothing there"), summed(withByte(none, datas+2, v)), impl.ErrEnd)
		checkNoObject(t, fmt.Sprint(v, " functions alone"), summed("POB1\x01a\x00"+littleByBits(v, 1)), impl.ErrEnd)
	}
	for _, v := range []int{len(body) - 5, len(body) - 4, 254, 255} {
		checkNoObject(t, fmt.Sprint("a name of ", v), summed("POB1"+littleByBits(v, 1)+strings.Repeat("a", min(v, 255)-1)), impl.ErrEnd)
		checkNoObject(t, fmt.Sprint("a name of all that is behind, of ", v), summed("POB1"+littleByBits(v%256, 1)+strings.Repeat("a", v%256)), impl.ErrEnd)
	}
	for at := range len(body) {
		for v := range 256 {
			text := summed(withByte(body, at, v))
			want, code := objectFrom(text)
			if got, gotCode := impl.ReadObject(text); gotCode != code || !sameObjects(got, want) {
				t.Errorf("the byte %d at %d: ReadObject = %s, %s, not %s", v, at, objectString(got), impl.CodeWord(gotCode), impl.CodeWord(code))
			}
		}
	}
}

// greatBody answers a body of n bytes, of an object with far too many functions; it has no byte too many or too few.
func greatBody(n int) string {
	o := impl.Object{Name: "a", Funcs: slices.Repeat([]impl.PatchFunc{{Frame: 16, Code: dataOf(1020)}}, 60)}
	room := n - len(bodyOfObject(o))
	for i := range o.Funcs {
		o.Funcs[i].Name = strings.Repeat("a", min(255, room))
		room -= len(o.Funcs[i].Name)
	}
	return bodyOfObject(o)
}

func TestTextsOfObjectsOfTheGreatestLength(t *testing.T) {
	body := bodyOfObject(mixedObject())
	for n, want := range map[int]int{impl.MaxText: impl.ErrSize, impl.MaxText - 1: impl.ErrSize, impl.MaxText + 1: impl.ErrLong, 4 * impl.MaxText: impl.ErrLong} {
		long := body + strings.Repeat("a", n-4-len(body))
		checkNoObject(t, "an object and more", long+littleByBits(sumOfAny(long), 4), want)
		checkNoObject(t, "an object, more, and no sum", long+"abcd", []int{impl.ErrSum, impl.ErrLong}[oneIf(n > impl.MaxText)])
		checkNoObject(t, "other bytes", strings.Repeat("a", n), []int{impl.ErrForm, impl.ErrLong}[oneIf(n > impl.MaxText)])
		checkNoObject(t, "noughts", strings.Repeat("\x00", n), []int{impl.ErrForm, impl.ErrLong}[oneIf(n > impl.MaxText)])
	}
	for n, want := range map[int]int{impl.MaxText - 1: impl.ErrBad, impl.MaxText: impl.ErrBad, impl.MaxText + 1: impl.ErrLong} {
		long := greatBody(n - 4)
		if len(long) != n-4 {
			t.Fatal("a body of", len(long), "bytes, not", n-4)
		}
		checkNoObject(t, "far too many functions", long+littleByBits(sumOfAny(long), 4), want)
	}
}

// Any byte of a text is another one, or is gone, or there is one more; the sum is right.
func TestObjectsThatAreChangedAndSummed(t *testing.T) {
	told := map[int]int{}
	check := func(what, body string) {
		want, code := objectFrom(summed(body))
		got, gotCode := impl.ReadObject(summed(body))
		if gotCode != code || !sameObjects(got, want) {
			t.Errorf("%s: ReadObject = %s, %s, not %s, %s", what, objectString(got), impl.CodeWord(gotCode), objectString(want), impl.CodeWord(code))
		}
		told[code]++
	}
	for i, o := range rightObjects()[:20] {
		body := bodyOfObject(o)
		for at := range len(body) {
			for _, b := range otherBytes(body[at], len(body) < 100) {
				check(fmt.Sprint("object ", i, " with the byte ", b, " at ", at), withByte(body, at, int(b)))
			}
			check(fmt.Sprint("object ", i, " without the byte at ", at), body[:at]+body[at+1:])
			check(fmt.Sprint("object ", i, " with a byte more at ", at), body[:at]+"\x01"+body[at:])
		}
	}
	for _, code := range []int{impl.OK, impl.ErrForm, impl.ErrEnd, impl.ErrSize, impl.ErrBad} {
		if told[code] < 50 {
			t.Errorf("only %d texts of code %s", told[code], impl.CodeWord(code))
		}
	}
}

// What is read shares nothing with another answer, and is not kept.
func TestObjectsThatAreReadAreNewMemory(t *testing.T) {
	text, _ := impl.ObjectText(fullObject())
	first, _ := impl.ReadObject(text)
	clear(first.Funcs)
	clear(first.Datas)
	clear(first.Relocs)
	clear(first.Shadows)
	if second, code := impl.ReadObject(text); code != impl.OK || !sameObjects(second, fullObject()) {
		t.Error("an object that is read shares its lists with the next one:", objectString(second))
	}
}
