package tests

import (
	"fmt"
	"slices"
	"testing"

	"loop.example/g00654/impl"
)

const (
	shadowLimit = 16
	idLimit     = 255
)

// wrongIds has numbers that are no shadow variable's.
var wrongIds = []int{-1, -2, -255, -256, 256, 257, 511, 512, 65536, 1 << 32, 1<<32 + 7, -1 << 32, leastInt, leastInt + 1, leastInt + 7, greatestInt, greatestInt - 1}

// farObjects has objects at the ends, and such as fall on others where a key or a difference turns over.
var farObjects = []int{leastInt, leastInt + 1, -1 << 62, -1 << 56, -1 << 32, -256, -5, -1, 0, 1, 5, 255, 256, 1 << 32, 1 << 55, 1 << 56, 1 << 62, greatestInt - 1, greatestInt}

// someValues has values on both sides of 0 and at the ends.
var someValues = []int{0, 1, -1, 7, -256, 1 << 32, leastInt, leastInt + 1, greatestInt, greatestInt - 1}

// mixedShadows has objects, Ids and values at their ends, and objects with one Id and with several.
func mixedShadows() []impl.Shadow {
	return []impl.Shadow{
		{Object: leastInt, Id: 0, Value: greatestInt}, {Object: leastInt, Id: 9, Value: 1}, {Object: leastInt, Id: 255, Value: -1},
		{Object: -3, Id: 9, Value: 12}, {Object: -1, Id: 7}, {Object: 0, Id: 0, Value: leastInt},
		{Object: 5, Id: 1, Value: 11}, {Object: 5, Id: 2, Value: 10}, {Object: 5, Id: 9, Value: 11}, {Object: 6, Id: 9, Value: -20},
		{Object: 16384, Id: 254, Value: 5}, {Object: 1 << 56, Id: 0, Value: 3}, {Object: greatestInt, Id: 9}, {Object: greatestInt, Id: 255, Value: 4},
	}
}

// severalShadows answers n of them, with room between any two, each of an object of its own.
func severalShadows(n int) []impl.Shadow {
	var list []impl.Shadow
	for i := range n {
		list = append(list, impl.Shadow{Object: 10 * (i - 7), Id: i % 3 * 127, Value: i - 3})
	}
	return list
}

// oneObject answers n of them, with room between any two, of the same object.
func oneObject(object, n int) []impl.Shadow {
	var list []impl.Shadow
	for i := range n {
		list = append(list, impl.Shadow{Object: object, Id: 2 + 13*i, Value: 100 * i})
	}
	return list
}

// oneId answers n of them with the same Id, of objects from one end to the other.
func oneId(id, n int) []impl.Shadow {
	var list []impl.Shadow
	for i := range n {
		list = append(list, impl.Shadow{Object: leastInt + i*(1<<60), Id: id, Value: -i})
	}
	return list
}

func rightShadows() [][]impl.Shadow {
	mixed := mixedShadows()
	return [][]impl.Shadow{
		nil, {}, mixed, mixed[:1], mixed[3:7], {{}}, {{Object: greatestInt, Id: 255, Value: leastInt}},
		slices.Concat(mixed[:6], []impl.Shadow{{Object: 3}, {Object: 4}}, mixed[6:]),
		severalShadows(2), severalShadows(shadowLimit - 1), severalShadows(shadowLimit), oneObject(-1, shadowLimit), oneObject(0, 4), oneId(0, shadowLimit), oneId(idLimit, shadowLimit-1),
	}
}

// swapped answers the list with two of its elements changed for one another.
func swapped(list []impl.Shadow, i, j int) []impl.Shadow {
	list = slices.Clone(list)
	list[i], list[j] = list[j], list[i]
	return list
}

// withShadow answers a list with another element n.
func withShadow(list []impl.Shadow, n int, change func(s *impl.Shadow)) []impl.Shadow {
	list = slices.Clone(list)
	change(&list[n])
	return list
}

// wrongShadows has a list of each fault, none longer than MaxList.
func wrongShadows() map[string][]impl.Shadow {
	wrong := map[string][]impl.Shadow{
		"17":                 severalShadows(shadowLimit + 1),
		"17 of one object":   oneObject(7, shadowLimit+1),
		"16 and one more":    append(severalShadows(shadowLimit), impl.Shadow{Object: greatestInt, Id: 255}),
		"4096":               severalShadows(impl.MaxList),
		"4096 that are zero": make([]impl.Shadow, impl.MaxList),
		"two that are zero":  make([]impl.Shadow, 2),
		"falling objects":    {{Object: greatestInt}, {Object: leastInt}},
		"falling Ids":        {{Object: 4, Id: 255}, {Object: 4}},
		"Ids ahead of":       {{Object: 2, Id: 1}, {Object: 1, Id: 2}},
	}
	for name, list := range map[string][]impl.Shadow{"mixed": mixedShadows(), "full": severalShadows(shadowLimit), "one object": oneObject(-1, shadowLimit), "one Id": oneId(7, 3)} {
		for n := range list {
			for _, id := range []int{-1, 256, leastInt, greatestInt} {
				wrong[fmt.Sprint(name, ": Id ", id, " of ", n)] = withShadow(list, n, func(s *impl.Shadow) { s.Id = id })
			}
			if n > 0 {
				wrong[fmt.Sprint(name, ": turned at ", n)] = swapped(list, n-1, n)
				wrong[fmt.Sprint(name, ": first at ", n)] = swapped(list, 0, n)
				wrong[fmt.Sprint(name, ": twice at ", n)] = withShadow(list, n, func(s *impl.Shadow) { *s = list[n-1] })
				wrong[fmt.Sprint(name, ": another value at ", n)] = withShadow(list, n, func(s *impl.Shadow) { s.Object, s.Id = list[n-1].Object, list[n-1].Id })
			}
		}
	}
	return wrong
}

// standsAhead tells whether a stands ahead of b in a list, by the document's words.
func standsAhead(a, b impl.Shadow) bool {
	if a.Object == b.Object {
		return a.Id < b.Id
	}
	return a.Object < b.Object
}

// shadowsByRule tells whether it is a list of shadow variables, by the document's words.
func shadowsByRule(list []impl.Shadow) bool {
	if len(list) > 16 {
		return false
	}
	for i, a := range list {
		if a.Id < 0 || a.Id > 255 {
			return false
		}
		for _, b := range list[i+1:] {
			if !standsAhead(a, b) {
				return false
			}
		}
	}
	return true
}

func checkShadows(t *testing.T, what string, list []impl.Shadow, right bool) {
	t.Helper()
	if impl.ShadowsOK(list) != right || shadowsByRule(list) != right {
		t.Errorf("%s: ShadowsOK = %v of %d: %.900s", what, impl.ShadowsOK(list), len(list), fmt.Sprint(list[:min(len(list), 40)]))
	}
}

func TestShadowsThatAreKnown(t *testing.T) {
	if impl.MaxShadows != shadowLimit || impl.MaxShadow != idLimit {
		t.Error("constants", impl.MaxShadows, impl.MaxShadow)
	}
	for i, list := range rightShadows() {
		checkShadows(t, fmt.Sprint("right list ", i), list, true)
	}
	for what, list := range wrongShadows() {
		checkShadows(t, what, list, false)
	}
	for n := range 40 {
		checkShadows(t, fmt.Sprint(n, " of several objects"), severalShadows(n), n <= shadowLimit)
		checkShadows(t, fmt.Sprint(n, " that are zero"), make([]impl.Shadow, n), n <= 1)
	}
	for n := range 20 {
		checkShadows(t, fmt.Sprint(n, " of one object"), oneObject(-9, n), n <= shadowLimit)
	}
	for _, n := range []int{impl.MaxList, impl.MaxList + 1, impl.MaxText} {
		checkShadows(t, fmt.Sprint(n, " of several objects"), severalShadows(n), false)
	}
}

func TestIdsOfShadows(t *testing.T) {
	ids := slices.Clone(wrongIds)
	for id := -300; id <= 600; id++ {
		ids = append(ids, id)
	}
	for _, id := range ids {
		right := id >= 0 && id <= idLimit
		for _, object := range farObjects {
			checkShadows(t, fmt.Sprint("Id ", id), []impl.Shadow{{Object: object, Id: id}}, right)
		}
		// Where the order leaves each Id free.
		for n := range shadowLimit {
			checkShadows(t, fmt.Sprint("Id ", id, " at ", n), withShadow(severalShadows(shadowLimit), n, func(s *impl.Shadow) { s.Id = id }), right)
		}
		for n, own := range oneObject(5, shadowLimit) {
			inOrder := right && (n == 0 || id > own.Id-13) && (n == shadowLimit-1 || id < own.Id+13)
			checkShadows(t, fmt.Sprint("Id ", id, " at ", n, " of one object"), withShadow(oneObject(5, shadowLimit), n, func(s *impl.Shadow) { s.Id = id }), inOrder)
		}
	}
}

// Each two of all these, and each three of some, in each order.
func TestTheOrderOfShadows(t *testing.T) {
	var all []impl.Shadow
	for _, object := range farObjects {
		for _, id := range []int{0, 1, 7, 254, 255} {
			all = append(all, impl.Shadow{Object: object, Id: id, Value: -object})
		}
	}
	for i, a := range all {
		for j, b := range all {
			checkShadows(t, "two", []impl.Shadow{a, b}, i < j)
			if (i+j)%4 == 0 {
				for k := i % 5; k < len(all); k += 5 {
					checkShadows(t, "three", []impl.Shadow{a, b, all[k]}, i < j && j < k)
				}
			}
		}
	}
}

// One place where two stand the wrong way round, or are the same, in lists of each length.
func TestOnePlaceThatDoesNotRise(t *testing.T) {
	for n := 2; n <= shadowLimit; n++ {
		for _, list := range [][]impl.Shadow{severalShadows(n), oneObject(0, n), oneObject(leastInt, n), oneId(0, n), oneId(255, n)} {
			checkShadows(t, fmt.Sprint(n, " in order"), list, true)
			for i := range n {
				for j := range i {
					checkShadows(t, fmt.Sprint(j, " for ", i), swapped(list, j, i), false)
				}
				for _, value := range someValues {
					checkShadows(t, fmt.Sprint("value ", value), withShadow(list, i, func(s *impl.Shadow) { s.Value = value }), true)
				}
			}
			for i := 1; i < n; i++ {
				for _, value := range []int{list[i].Value, list[i-1].Value, leastInt} {
					twice := impl.Shadow{Object: list[i].Object, Id: list[i].Id, Value: value}
					checkShadows(t, fmt.Sprint(i, " twice"), withShadow(list, i-1, func(s *impl.Shadow) { *s = twice }), false)
				}
			}
		}
	}
}

// anyShadows answers a list that is right, of few objects and Ids; the more are tried, the more often it is full.
func anyShadows(d *dice, tries int) []impl.Shadow {
	var list []impl.Shadow
	for range d.below(tries + 1) {
		s := impl.Shadow{Object: drawnObject(d), Id: drawnId(d), Value: someValues[d.below(len(someValues))]}
		if len(list) < shadowLimit && whereByRule(list, s.Object, s.Id) < 0 {
			list = insertedByRule(list, s)
		}
	}
	return list
}

func drawnObject(d *dice) int {
	return []int{leastInt, -2, 0, 4096, greatestInt, d.below(9)}[d.below(6)]
}

func drawnId(d *dice) int { return []int{0, 7, 254, 255, d.below(5)}[d.below(5)] }

// spoilShadows changes something of a list.
func spoilShadows(d *dice, list []impl.Shadow) {
	if len(list) == 0 {
		return
	}
	n, m := d.below(len(list)), d.below(len(list))
	switch d.below(5) {
	case 0:
		list[n].Id = wrongIds[d.below(len(wrongIds))]
	case 1:
		list[n].Id = drawnId(d)
	case 2:
		list[n].Object = drawnObject(d)
	case 3:
		list[n], list[m] = list[m], list[n]
	case 4:
		list[n] = list[m]
	}
}

func TestAnyShadowsByTheDocumentsWords(t *testing.T) {
	d := dice(30)
	right := 0
	for range 20000 {
		list := anyShadows(&d, 30)
		for range d.below(3) {
			spoilShadows(&d, list)
		}
		checkShadows(t, "any list", list, shadowsByRule(list))
		right += oneIf(shadowsByRule(list))
	}
	if right < 5000 || right > 17000 {
		t.Error(right, "lists of 20000 are right")
	}
}

func checkSame(t *testing.T, what string, a, b []impl.Shadow, same bool) {
	t.Helper()
	if impl.SameShadows(a, b) != same || impl.SameShadows(b, a) != same {
		t.Errorf("%s: SameShadows is not %v of %.400s and %.400s", what, same, fmt.Sprint(a), fmt.Sprint(b))
	}
}

func TestSameShadows(t *testing.T) {
	right := rightShadows()
	for i, a := range right {
		checkSame(t, "a list and itself", a, a, true)
		checkSame(t, "a list and its copy", a, slices.Clone(a), true)
		for j, b := range right {
			// The first two are the empty list.
			checkSame(t, fmt.Sprint(i, " and ", j), a, b, i == j || i < 2 && j < 2)
		}
		for n := range a {
			checkSame(t, "another value", a, withShadow(a, n, func(s *impl.Shadow) { s.Value++ }), false)
			checkSame(t, "the least value", a, withShadow(a, n, func(s *impl.Shadow) { s.Value ^= leastInt }), false)
			checkSame(t, "one less", a, slices.Delete(slices.Clone(a), n, n+1), false)
			for by := -1; by <= 1; by += 2 {
				checkSame(t, "another object", a, withShadow(a, n, func(s *impl.Shadow) { s.Object += by }), false)
				checkSame(t, "another Id", a, withShadow(a, n, func(s *impl.Shadow) { s.Id += by }), false)
			}
		}
		checkSame(t, "one more", a, append(slices.Clone(a), impl.Shadow{Object: greatestInt, Id: 255, Value: 1}), false)
	}
	// By the first of one number alone, where all of them are right.
	base := oneObject(5, 3)
	for what, other := range map[string][]impl.Shadow{
		"object": {{Object: 4, Id: 2}, base[1], base[2]}, "id": {{Object: 5, Id: 3}, base[1], base[2]}, "value": {{Object: 5, Id: 2, Value: 1}, base[1], base[2]},
	} {
		checkShadows(t, what, other, true)
		checkSame(t, what, base, other, false)
	}
}

func TestSameShadowsOfWrongLists(t *testing.T) {
	for what, list := range wrongShadows() {
		checkSame(t, what, list, list, false)
		checkSame(t, what, list, slices.Clone(list), false)
		for _, right := range rightShadows() {
			checkSame(t, what, list, right, false)
		}
	}
	for _, n := range []int{shadowLimit + 1, impl.MaxList, impl.MaxList + 1, impl.MaxText} {
		checkSame(t, fmt.Sprint(n, " of them"), severalShadows(n), severalShadows(n), false)
		checkSame(t, fmt.Sprint(n, " of them and none"), severalShadows(n), nil, false)
		checkSame(t, fmt.Sprint(n, " of them and 16"), severalShadows(n), severalShadows(shadowLimit), false)
	}
}
