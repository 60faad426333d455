package tests

import (
	"fmt"
	"slices"
	"testing"

	"loop.example/g00654/impl"
)

// pairOf names a shadow variable.
type pairOf struct{ object, id int }

// valuesOf answers the value of each shadow variable of a list.
func valuesOf(list []impl.Shadow) map[pairOf]int {
	values := map[pairOf]int{}
	for _, s := range list {
		values[pairOf{s.Object, s.Id}] = s.Value
	}
	return values
}

// checkOthers holds two lists against one another: all but those of the one that is named are as they were.
func checkOthers(t *testing.T, before, after []impl.Shadow, named pairOf) {
	t.Helper()
	was, is := valuesOf(before), valuesOf(after)
	if len(is) != len(after) {
		t.Fatalf("there is a second one of the same: %v", after)
	}
	delete(was, named)
	delete(is, named)
	for p, v := range was {
		if held, here := is[p]; !here || held != v {
			t.Fatalf("%v was %d and is %d, %v", p, v, held, here)
		}
	}
	if len(was) != len(is) || !shadowsByRule(after) {
		t.Fatalf("%v behind %v", after, before)
	}
}

// holds asks whether the list has the value, by each call that tells it.
func holds(t *testing.T, list []impl.Shadow, p pairOf, v int) {
	t.Helper()
	if got, code := impl.GetShadow(list, p.object, p.id); got != v || code != impl.OK {
		t.Fatalf("GetShadow of %v = %d, %d, not %d", p, got, code, v)
	}
	if same, got, code := impl.GetOrAlloc(list, p.object, p.id, v+1); got != v || code != impl.OK || !impl.SameShadows(same, list) {
		t.Fatalf("GetOrAlloc of %v = %v, %d, %d, not %d", p, same, got, code, v)
	}
}

// lacks asks whether the list has none, by each call that tells it.
func lacks(t *testing.T, list []impl.Shadow, p pairOf) {
	t.Helper()
	if got, code := impl.GetShadow(list, p.object, p.id); got != 0 || code != impl.ErrNone {
		t.Fatalf("GetShadow of %v = %d, %d", p, got, code)
	}
	if same, code := impl.PutShadow(list, p.object, p.id, 1); code != impl.ErrNone || !slices.Equal(same, list) {
		t.Fatalf("PutShadow of %v = %v, %d", p, same, code)
	}
	if same, code := impl.FreeShadow(list, p.object, p.id); code != impl.ErrNone || !slices.Equal(same, list) {
		t.Fatalf("FreeShadow of %v = %v, %d", p, same, code)
	}
}

// A shadow variable that is allocated is got, put anew and freed, and the others stay.
func TestTheLifeOfAShadow(t *testing.T) {
	d := dice(33)
	lives := 0
	for range 3000 {
		list := anyShadows(&d, 20)
		p := pairOf{drawnObject(&d), drawnId(&d)}
		if len(list) == shadowLimit || whereByRule(list, p.object, p.id) >= 0 {
			continue
		}
		lives++
		lacks(t, list, p)
		v, w := someValues[d.below(len(someValues))], someValues[d.below(len(someValues))]
		born, code := impl.AllocShadow(list, p.object, p.id, v)
		if code != impl.OK || len(born) != len(list)+1 {
			t.Fatalf("AllocShadow of %v = %v, %d", p, born, code)
		}
		checkOthers(t, list, born, p)
		holds(t, born, p, v)
		if again, code := impl.AllocShadow(born, p.object, p.id, w); code != impl.ErrClash || !slices.Equal(again, born) {
			t.Fatalf("AllocShadow of %v twice = %v, %d", p, again, code)
		}
		turned, code := impl.PutShadow(born, p.object, p.id, w)
		if code != impl.OK || len(turned) != len(born) {
			t.Fatalf("PutShadow of %v = %v, %d", p, turned, code)
		}
		checkOthers(t, born, turned, p)
		holds(t, turned, p, w)
		gone, code := impl.FreeShadow(turned, p.object, p.id)
		if code != impl.OK || !impl.SameShadows(gone, list) {
			t.Fatalf("FreeShadow of %v = %v, %d", p, gone, code)
		}
		lacks(t, gone, p)
	}
	if lives < 1000 {
		t.Error("only", lives, "lives")
	}
}

// Who asks first sets the value; all who ask later are told it, until it is freed.
func TestWhoAsksFirstSetsTheValue(t *testing.T) {
	d := dice(34)
	for range 500 {
		var list []impl.Shadow
		first := map[pairOf]int{}
		for range 60 {
			p, v := pairOf{drawnObject(&d), drawnId(&d)}, someValues[d.below(len(someValues))]
			got, held, code := impl.GetOrAlloc(list, p.object, p.id, v)
			want, here := first[p]
			switch {
			case !here && len(first) == shadowLimit:
				if code != impl.ErrFull || held != 0 || !slices.Equal(got, list) {
					t.Fatalf("GetOrAlloc of %v in a full list = %v, %d, %d", p, got, held, code)
				}
				continue
			case !here:
				first[p], want = v, v
				checkOthers(t, list, got, p)
			case !slices.Equal(got, list):
				t.Fatalf("GetOrAlloc of %v turns %v to %v", p, list, got)
			}
			if held != want || code != impl.OK {
				t.Fatalf("GetOrAlloc of %v = %d, %d, not %d", p, held, code, want)
			}
			if list = got; d.below(12) == 0 {
				list, _ = impl.FreeShadow(list, p.object, p.id)
				delete(first, p)
			}
		}
	}
}

// runStep does a call that the dice tell, and holds the list then against the values that it must have.
func runStep(t *testing.T, d *dice, list []impl.Shadow, values map[pairOf]int) []impl.Shadow {
	p, v := pairOf{drawnObject(d), drawnId(d)}, someValues[d.below(len(someValues))]
	held, here := values[p]
	room := len(values) < shadowLimit
	next, code, want := list, 0, impl.OK
	switch d.below(6) {
	case 0:
		next, code = impl.AllocShadow(list, p.object, p.id, v)
		if want = codeUnless(room, impl.ErrFull); here {
			want = impl.ErrClash
		} else if room {
			values[p] = v
		}
	case 1:
		told := 0
		next, told, code = impl.GetOrAlloc(list, p.object, p.id, v)
		if !here && room {
			values[p] = v
		}
		if want = codeUnless(here || room, impl.ErrFull); told != values[p] {
			t.Fatalf("GetOrAlloc of %v = %d, not %d", p, told, values[p])
		}
	case 2:
		next, code = impl.PutShadow(list, p.object, p.id, v)
		if want = codeUnless(here, impl.ErrNone); here {
			values[p] = v
		}
	case 3:
		next, code = impl.FreeShadow(list, p.object, p.id)
		delete(values, p)
		want = codeUnless(here, impl.ErrNone)
	case 4:
		told := 0
		told, code = impl.GetShadow(list, p.object, p.id)
		if want = codeUnless(here, impl.ErrNone); told != held {
			t.Fatalf("GetShadow of %v = %d, not %d", p, told, held)
		}
	case 5:
		if d.below(6) == 0 {
			next = freedByRule(t, list, values, p.id)
		}
	}
	if code != want {
		t.Fatalf("%v of %v: %s, not %s", p, list, impl.CodeWord(code), impl.CodeWord(want))
	}
	return next
}

// freedByRule frees all of an Id from the list and from the values.
func freedByRule(t *testing.T, list []impl.Shadow, values map[pairOf]int, id int) []impl.Shadow {
	next, n, code := impl.FreeId(list, id)
	for p := range values {
		if p.id == id {
			delete(values, p)
			n--
		}
	}
	if n != 0 || code != impl.OK {
		t.Fatalf("FreeId of %d: %d too many, %d", id, n, code)
	}
	return next
}

func TestAnyRunOfShadowCalls(t *testing.T) {
	d := dice(35)
	full := 0
	for range 400 {
		var list []impl.Shadow
		values := map[pairOf]int{}
		for range 150 {
			list = runStep(t, &d, list, values)
			if len(list) != len(values) || !impl.ShadowsOK(list) || !shadowsByRule(list) {
				t.Fatalf("%v with the values %v", list, values)
			}
			for _, s := range list {
				if v, here := values[pairOf{s.Object, s.Id}]; !here || v != s.Value {
					t.Fatalf("%v is in the list, %d, %v", s, v, here)
				}
			}
			full += oneIf(len(list) == shadowLimit)
		}
	}
	if full < 1000 {
		t.Error("a list was full", full, "times only")
	}
}

// givenShadows has lists that are right, and some that are not.
func givenShadows() [][]impl.Shadow {
	lists := rightShadows()
	for _, list := range wrongShadows() {
		lists = append(lists, list)
	}
	return append(lists, make([]impl.Shadow, impl.MaxList+1), severalShadows(impl.MaxList+1))
}

// fewAsks has what is asked of each list: the first and the last that is there, and some that may not be.
func fewAsks(list []impl.Shadow) []shadowAsk {
	asks := []shadowAsk{{0, 0, 1}, {5, 9, leastInt}, {leastInt, 255, 0}, {greatestInt, 255, greatestInt}, {9, -1, 3}, {9, 256, 3}, {7, 77, 3}}
	if n := len(list); n > 0 {
		asks = append(asks, shadowAsk{list[0].Object, list[0].Id, 55}, shadowAsk{list[n-1].Object, list[n-1].Id, 56}, shadowAsk{list[n/2].Object, list[n/2].Id, list[n/2].Value})
	}
	return asks
}

// No call of the layer turns what it was given, nor what lies behind it, and each answers the same again.
func TestNoShadowCallChangesWhatItWasGiven(t *testing.T) {
	for _, list := range givenShadows() {
		given, stands := lentList(list, impl.Shadow{Object: -7, Id: 77, Value: 777})
		for _, ask := range fewAsks(list) {
			for _, c := range shadowCalls() {
				first := c.call(given, ask)
				for range 5 {
					if again := c.call(given, ask); !again.is(first) {
						t.Errorf("%s of %v: %v, and then %v", c.name, ask, first, again)
					}
				}
				if !stands() {
					t.Fatalf("%s of %v changes %.400s", c.name, ask, fmt.Sprint(list))
				}
			}
		}
		impl.ShadowsOK(given)
		impl.SameShadows(given, given)
		impl.SameShadows(given, mixedShadows())
		if !stands() {
			t.Fatalf("a list that is asked is changed: %.400s", fmt.Sprint(list))
		}
	}
}

// What is written into a list that was answered, or behind its end, is seen nowhere else.
func TestListsOfShadowsAreNewMemory(t *testing.T) {
	written := impl.Shadow{Object: 1, Id: 300, Value: 1}
	for _, list := range rightShadows() {
		given, stands := lentList(list, impl.Shadow{Object: -7, Id: 77, Value: 777})
		for _, ask := range append(fewAsks(list), asksOf(list)...) {
			for _, c := range shadowCalls() {
				want := c.answerByRule(list, ask)
				first, other := c.call(given, ask), c.call(given, ask)
				kept := slices.Clone(other.list)
				for n := range first.list {
					first.list[n] = written
				}
				for range 3 {
					first.list = append(first.list, written)
				}
				if !stands() || !slices.Equal(other.list, kept) {
					t.Fatalf("%s of %v: the answer shares memory with the argument %v", c.name, ask, list)
				}
				if again := c.call(given, ask); !again.is(want) {
					t.Fatalf("%s of %v: %v behind it, not %v", c.name, ask, again, want)
				}
			}
		}
	}
}
