package tests

import (
	"fmt"
	"slices"
	"strings"
	"testing"

	"loop.example/g00654/impl"
)

func TestUnitSizes(t *testing.T) {
	for i, o := range rightObjects() {
		sizes := unitsByRule(o)
		for unit := -3; unit < 12; unit++ {
			want, code := 0, impl.ErrRange
			if unit >= 0 && unit < len(sizes) {
				want, code = sizes[unit], impl.OK
			}
			if n, got := impl.UnitSize(o, unit); n != want || got != code {
				t.Errorf("object %d: UnitSize(%d) = %d, %d, not %d, %d", i, unit, n, got, want, code)
			}
		}
		for _, unit := range append([]int{255, 256, 257, 1<<32 + 1, 1 << 61, 1 << 60}, greatNumbers...) {
			if n, code := impl.UnitSize(o, unit); n != 0 || code != impl.ErrRange {
				t.Errorf("object %d: UnitSize(%d) = %d, %d", i, unit, n, code)
			}
		}
	}
	for unit, want := range []int{5, 64, 7, 1, 8, 3} {
		if n, code := impl.UnitSize(mixedObject(), unit); n != want || code != impl.OK {
			t.Errorf("UnitSize(%d) = %d, %d, not %d", unit, n, code, want)
		}
	}
}

// namesByRule are the names that AddedNames and ReplacedNames must answer.
func namesByRule(o impl.Object) (added, replaced []string) {
	for _, f := range o.Funcs {
		if f.Replaces {
			replaced = append(replaced, f.Name)
		} else {
			added = append(added, f.Name)
		}
	}
	for _, d := range o.Datas {
		added = append(added, d.Name)
	}
	return added, replaced
}

func checkNames(t *testing.T, what string, o impl.Object, added, replaced []string) {
	t.Helper()
	if got, code := impl.AddedNames(o); code != impl.OK || !slices.Equal(got, added) {
		t.Errorf("%s: AddedNames = %q, %d, not %q", what, got, code, added)
	}
	if got, code := impl.ReplacedNames(o); code != impl.OK || !slices.Equal(got, replaced) {
		t.Errorf("%s: ReplacedNames = %q, %d, not %q", what, got, code, replaced)
	}
}

func TestNamesThatAreAddedAndReplaced(t *testing.T) {
	checkNames(t, "small", smallObject(), nil, []string{"f"})
	checkNames(t, "mixed", mixedObject(), []string{"f1", "d0", "d1", "d2"}, []string{"f0", "f2"})
	for i, o := range rightObjects() {
		added, replaced := namesByRule(o)
		checkNames(t, fmt.Sprint("object ", i), o, added, replaced)
	}
	// Each choice of which functions replace one, with data and without.
	for choice := range 16 {
		o := without(fullObject(), "r")
		for n := range o.Funcs {
			o.Funcs[n].Replaces = choice>>n&1 == 1
		}
		for _, o := range []impl.Object{o, without(o, "d")} {
			added, replaced := namesByRule(o)
			checkNames(t, fmt.Sprint("choice ", choice), o, added, replaced)
		}
	}
	// The order is the object's, not that of the names.
	turned := changed(without(mixedObject(), "r"), func(o *impl.Object) {
		slices.Reverse(o.Funcs)
		slices.Reverse(o.Datas)
		o.Funcs[0].Replaces = false
	})
	checkNames(t, "turned", turned, []string{"f2", "f1", "d2", "d1", "d0"}, []string{"f0"})
}

// wrongObjects has an object of each fault.
func wrongObjects() map[string]impl.Object {
	wrong := map[string]impl.Object{
		"nothing":                      {},
		"empty functions":              {Name: "a", Funcs: make([]impl.PatchFunc, 4)},
		"a name that is too long":      changed(mixedObject(), func(o *impl.Object) { o.Name = strings.Repeat("a", impl.MaxText+1) }),
		"a function that is too long":  changed(mixedObject(), func(o *impl.Object) { o.Funcs[0].Code = dataOf(impl.MaxText + 4) }),
		"too many functions for lists": {Name: "a", Funcs: make([]impl.PatchFunc, impl.MaxList+1)},
	}
	for _, s := range objectSpoilers() {
		wrong[s.what] = changed(mixedObject(), s.spoil)
	}
	return wrong
}

// An object that is not right comes ahead of a unit that is not there.
func TestWrongObjectsComeFirst(t *testing.T) {
	for what, o := range wrongObjects() {
		if impl.ObjectOK(o) {
			t.Errorf("%s: ObjectOK", what)
		}
		if text, code := impl.ObjectText(o); text != "" || code != impl.ErrBad {
			t.Errorf("%s: ObjectText = %x, %d", what, text, code)
		}
		for _, unit := range []int{0, 1, 3, 5, 6, 7, -1, 255, leastInt, greatestInt} {
			if n, code := impl.UnitSize(o, unit); n != 0 || code != impl.ErrBad {
				t.Errorf("%s: UnitSize(%d) = %d, %d", what, unit, n, code)
			}
		}
		if names, code := impl.AddedNames(o); len(names) != 0 || code != impl.ErrBad {
			t.Errorf("%s: AddedNames = %q, %d", what, names, code)
		}
		if names, code := impl.ReplacedNames(o); len(names) != 0 || code != impl.ErrBad {
			t.Errorf("%s: ReplacedNames = %q, %d", what, names, code)
		}
		for _, other := range []impl.Object{o, copied(o), mixedObject(), smallObject(), {}} {
			if impl.SameObject(o, other) || impl.SameObject(other, o) {
				t.Errorf("%s: SameObject", what)
			}
		}
	}
}

// unitChanges answers the objects that differ from fullObject in one thing of a function or of data.
func unitChanges() map[string]impl.Object {
	out := map[string]impl.Object{}
	for n := range 4 {
		add := func(what string, change func(f *impl.PatchFunc, d *impl.PatchData)) {
			out[fmt.Sprint(what, " ", n)] = changed(fullObject(), func(o *impl.Object) { change(&o.Funcs[n], &o.Datas[n]) })
		}
		add("a function's name", func(f *impl.PatchFunc, d *impl.PatchData) { f.Name = "other" })
		add("a function's bool", func(f *impl.PatchFunc, d *impl.PatchData) { f.Replaces = !f.Replaces })
		add("a function's frame", func(f *impl.PatchFunc, d *impl.PatchData) { f.Frame = 112 })
		add("a function's last byte", func(f *impl.PatchFunc, d *impl.PatchData) { f.Code = withByte(f.Code, 255, int(f.Code[255])+1) })
		add("a function's first byte", func(f *impl.PatchFunc, d *impl.PatchData) { f.Code = withByte(f.Code, 0, int(f.Code[0])+128) })
		add("the name of data", func(f *impl.PatchFunc, d *impl.PatchData) { d.Name = "other" })
		add("the last byte of data", func(f *impl.PatchFunc, d *impl.PatchData) { d.Bytes = withByte(d.Bytes, 63, int(d.Bytes[63])+1) })
	}
	return out
}

// objectChanges answers objects that differ from fullObject in one thing, and are right.
func objectChanges() map[string]impl.Object {
	out := unitChanges()
	add := func(what string, change func(o *impl.Object)) { out[what] = changed(fullObject(), change) }
	add("the name", func(o *impl.Object) { o.Name = o.Name[:19] })
	add("the depth", func(o *impl.Object) { o.Depth = 4 })
	for n := range 32 {
		addReloc := func(what string, change func(r *impl.Reloc)) {
			add(fmt.Sprint(what, " ", n), func(o *impl.Object) { change(&o.Relocs[n]) })
		}
		if n%4 == 0 || n >= 16 {
			addReloc("a place", func(r *impl.Reloc) { r.At-- })
		}
		if n < 16 {
			addReloc("a kind", func(r *impl.Reloc) { r.Kind = 9 - r.Kind })
		}
		addReloc("a symbol", func(r *impl.Reloc) { r.Symbol += "x"; r.Symbol = r.Symbol[1:] })
		addReloc("an addend", func(r *impl.Reloc) { r.Addend ^= 1 })
	}
	for n := range 4 {
		add(fmt.Sprint("a bool of Shadows ", n), func(o *impl.Object) { o.Shadows[n].Free = !o.Shadows[n].Free })
	}
	add("an Id", func(o *impl.Object) { o.Shadows[0].Id = 0 })
	add("fewer functions", func(o *impl.Object) { *o = without(*o, "r"); o.Funcs = o.Funcs[:3] })
	add("fewer data", func(o *impl.Object) { o.Relocs, o.Datas = o.Relocs[:28], o.Datas[:3] })
	add("fewer relocations", func(o *impl.Object) { o.Relocs = o.Relocs[:31] })
	add("other relocations", func(o *impl.Object) { o.Relocs = o.Relocs[1:] })
	add("fewer Shadows", func(o *impl.Object) { o.Shadows = o.Shadows[:3] })
	add("other Shadows", func(o *impl.Object) { o.Shadows = o.Shadows[1:] })
	add("no data and relocations", func(o *impl.Object) { o.Datas, o.Relocs = nil, nil })
	add("functions swapped", func(o *impl.Object) { o.Funcs[0], o.Funcs[1] = o.Funcs[1], o.Funcs[0] })
	add("data swapped", func(o *impl.Object) { o.Datas[2], o.Datas[3] = o.Datas[3], o.Datas[2] })
	return out
}

// variedObjects answers objects that are right: of each length, with a relocation at other places, with less of something.
func variedObjects() []impl.Object {
	var list []impl.Object
	for words := 5; words <= 64; words++ {
		list = append(list, impl.Object{Name: "a", Funcs: []impl.PatchFunc{adding("f", 16, words)}})
	}
	for length := 8; length <= 64; length += 8 {
		list = append(list, impl.Object{Name: "a", Funcs: []impl.PatchFunc{adding("f", 16, 5)}, Datas: []impl.PatchData{{Name: "d", Bytes: dataOf(length)}}})
	}
	for unit, size := range unitsByRule(mixedObject()) {
		for at := range min(size, 9) {
			list = append(list, withReloc(impl.Reloc{Unit: unit, At: at, Kind: 1 + 8*oneIf(unit >= 3), Symbol: "s"}))
		}
	}
	for _, what := range []string{"d", "r", "s"} {
		list = append(list, without(without(fullObject(), "r"), what), without(without(mixedObject(), "dr"), what))
	}
	return list
}

func TestSameObject(t *testing.T) {
	full := fullObject()
	for i, o := range rightObjects() {
		if !impl.SameObject(o, o) || !impl.SameObject(o, copied(o)) {
			t.Errorf("object %d is not the same as itself", i)
		}
	}
	varied := append(rightObjects(), variedObjects()...)
	for i, o := range varied {
		for j, other := range varied {
			if impl.SameObject(o, other) != sameObjects(o, other) {
				t.Errorf("objects %d and %d: SameObject = %v", i, j, impl.SameObject(o, other))
			}
		}
	}
	for what, o := range objectChanges() {
		if !impl.ObjectOK(o) {
			t.Errorf("%s: the object is not right: %s", what, objectString(o))
		}
		if impl.SameObject(full, o) || impl.SameObject(o, full) {
			t.Errorf("%s: SameObject", what)
		}
		if !impl.SameObject(o, copied(o)) {
			t.Errorf("%s: not the same as a copy", what)
		}
	}
	// Relocations and Shadows in another order are not right.
	for what, change := range map[string]func(o *impl.Object){
		"relocations": func(o *impl.Object) { o.Relocs[4], o.Relocs[5] = o.Relocs[5], o.Relocs[4] },
		"Shadows":     func(o *impl.Object) { o.Shadows[0], o.Shadows[1] = o.Shadows[1], o.Shadows[0] },
	} {
		o := changed(full, change)
		if impl.SameObject(full, o) || impl.SameObject(o, full) || impl.SameObject(o, o) {
			t.Errorf("%s swapped: SameObject", what)
		}
	}
	small := smallObject()
	small.Datas, small.Relocs, small.Shadows = []impl.PatchData{}, []impl.Reloc{}, []impl.ShadowDecl{}
	if !impl.SameObject(small, smallObject()) || !impl.SameObject(smallObject(), small) {
		t.Error("empty lists are another thing than nil")
	}
}

// Objects that differ in anything have texts that differ.
func TestOtherObjectsHaveOtherTexts(t *testing.T) {
	texts := map[string]string{}
	list := objectChanges()
	for i, o := range rightObjects() {
		list[fmt.Sprint("right object ", i)] = o
	}
	for what, o := range list {
		text, code := impl.ObjectText(o)
		if other, here := texts[text]; code != impl.OK || here && !sameObjects(list[other], o) {
			t.Errorf("%s: the text of %s, %d", what, other, code)
		}
		texts[text] = what
	}
}

// objectAnswers tells all that the calls of the layer answer of an object.
func objectAnswers(o impl.Object) string {
	n, fault := impl.LintObject(o)
	text, textCode := impl.ObjectText(o)
	size, sizeCode := impl.UnitSize(o, 1)
	added, addedCode := impl.AddedNames(o)
	replaced, replacedCode := impl.ReplacedNames(o)
	return fmt.Sprint(n, fault, text, textCode, size, sizeCode, added, addedCode, replaced, replacedCode, impl.ObjectOK(o), impl.SameObject(o, o), impl.SameObject(o, mixedObject()))
}

// lent answers the object with lists that have something behind their ends, and a call that tells whether all of it stands.
func lent(o impl.Object) (impl.Object, func() bool) {
	funcs := slices.Concat(o.Funcs, slices.Repeat([]impl.PatchFunc{{Name: "behind"}}, 9))
	datas := slices.Concat(o.Datas, slices.Repeat([]impl.PatchData{{Name: "behind"}}, 9))
	relocs := slices.Concat(o.Relocs, slices.Repeat([]impl.Reloc{{Symbol: "behind"}}, 9))
	shadows := slices.Concat(o.Shadows, slices.Repeat([]impl.ShadowDecl{{Id: -7}}, 9))
	given := impl.Object{Funcs: slices.Clone(funcs), Datas: slices.Clone(datas), Relocs: slices.Clone(relocs), Shadows: slices.Clone(shadows)}
	whole := impl.Object{Funcs: funcs, Datas: datas, Relocs: relocs, Shadows: shadows}
	o.Funcs, o.Datas = funcs[:len(o.Funcs)], datas[:len(o.Datas)]
	o.Relocs, o.Shadows = relocs[:len(o.Relocs)], shadows[:len(o.Shadows)]
	return o, func() bool { return sameObjects(whole, given) }
}

// No call of the layer turns what it was given, nor what lies behind it.
func TestNoObjectCallChangesWhatItWasGiven(t *testing.T) {
	objects := rightObjects()
	for _, o := range wrongObjects() {
		objects = append(objects, o)
	}
	for _, o := range objects {
		given, stands := lent(o)
		first := objectAnswers(given)
		if !stands() {
			t.Errorf("a call changes the lists of %s", objectString(o))
		}
		if objectAnswers(given) != first {
			t.Errorf("another answer at the second time of %s", objectString(o))
		}
	}
}

// What is written into a list of names that was answered is seen nowhere else.
func TestListsOfNamesAreNewMemory(t *testing.T) {
	for i, o := range rightObjects() {
		given, stands := lent(o)
		wantAdded, wantReplaced := namesByRule(o)
		added, _ := impl.AddedNames(given)
		replaced, _ := impl.ReplacedNames(given)
		for range 2 {
			for j := range added {
				added[j] = "written"
			}
			for j := range replaced {
				replaced[j] = "written"
			}
			added, replaced = append(added, "behind")[:0], append(replaced, "behind")[:0]
			checkNames(t, fmt.Sprint("object ", i), given, wantAdded, wantReplaced)
		}
		if !stands() {
			t.Errorf("object %d shares its lists with an answer", i)
		}
	}
}
