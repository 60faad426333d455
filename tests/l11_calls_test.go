package tests

import (
	"fmt"
	"slices"
	"testing"

	"loop.example/g00654/impl"
)

// shadowAnswer is all that any call of chapter 12 with a code may answer; number is a Value, or how many there were.
type shadowAnswer struct {
	list   []impl.Shadow
	number int
	code   int
}

func (a shadowAnswer) is(b shadowAnswer) bool {
	return slices.Equal(a.list, b.list) && a.number == b.number && a.code == b.code
}

func (a shadowAnswer) String() string {
	return fmt.Sprintf("%.900s, %d, %s", fmt.Sprint(a.list), a.number, impl.CodeWord(a.code))
}

// shadowAsk is what a call is given beside the list.
type shadowAsk struct{ object, id, v int }

// shadowCall is a call with a code; known is what it must answer where list and Id are right.
type shadowCall struct {
	name  string
	call  func(list []impl.Shadow, ask shadowAsk) shadowAnswer
	known func(list []impl.Shadow, ask shadowAsk) shadowAnswer
}

func listedAnswer(list []impl.Shadow, code int) shadowAnswer { return shadowAnswer{list, 0, code} }

func countedAnswer(list []impl.Shadow, number, code int) shadowAnswer {
	return shadowAnswer{list, number, code}
}

// shadowCalls has all of them.
func shadowCalls() []shadowCall {
	return []shadowCall{
		{"GetShadow", func(list []impl.Shadow, a shadowAsk) shadowAnswer {
			v, code := impl.GetShadow(list, a.object, a.id)
			return shadowAnswer{nil, v, code}
		}, getByRule},
		{"AllocShadow", func(list []impl.Shadow, a shadowAsk) shadowAnswer {
			return listedAnswer(impl.AllocShadow(list, a.object, a.id, a.v))
		}, allocByRule},
		{"GetOrAlloc", func(list []impl.Shadow, a shadowAsk) shadowAnswer {
			return countedAnswer(impl.GetOrAlloc(list, a.object, a.id, a.v))
		}, getOrByRule},
		{"PutShadow", func(list []impl.Shadow, a shadowAsk) shadowAnswer {
			return listedAnswer(impl.PutShadow(list, a.object, a.id, a.v))
		}, putByRule},
		{"FreeShadow", func(list []impl.Shadow, a shadowAsk) shadowAnswer {
			return listedAnswer(impl.FreeShadow(list, a.object, a.id))
		}, freeByRule},
		{"FreeId", func(list []impl.Shadow, a shadowAsk) shadowAnswer {
			return countedAnswer(impl.FreeId(list, a.id))
		}, freeIdByRule},
	}
}

// whereByRule answers the number of the shadow variable of an object and an Id, -1 if there is none.
func whereByRule(list []impl.Shadow, object, id int) int {
	return slices.IndexFunc(list, func(s impl.Shadow) bool { return s.Object == object && s.Id == id })
}

// insertedByRule answers the list with s in its place.
func insertedByRule(list []impl.Shadow, s impl.Shadow) []impl.Shadow {
	var ahead, behind []impl.Shadow
	for _, other := range list {
		if standsAhead(other, s) {
			ahead = append(ahead, other)
		} else {
			behind = append(behind, other)
		}
	}
	return slices.Concat(ahead, []impl.Shadow{s}, behind)
}

func getByRule(list []impl.Shadow, a shadowAsk) shadowAnswer {
	if n := whereByRule(list, a.object, a.id); n >= 0 {
		return shadowAnswer{nil, list[n].Value, impl.OK}
	}
	return shadowAnswer{nil, 0, impl.ErrNone}
}

func allocByRule(list []impl.Shadow, a shadowAsk) shadowAnswer {
	if whereByRule(list, a.object, a.id) >= 0 {
		return shadowAnswer{list, 0, impl.ErrClash}
	}
	if len(list) == 16 {
		return shadowAnswer{list, 0, impl.ErrFull}
	}
	return shadowAnswer{insertedByRule(list, impl.Shadow{Object: a.object, Id: a.id, Value: a.v}), 0, impl.OK}
}

func getOrByRule(list []impl.Shadow, a shadowAsk) shadowAnswer {
	if n := whereByRule(list, a.object, a.id); n >= 0 {
		return shadowAnswer{list, list[n].Value, impl.OK}
	}
	out := allocByRule(list, a)
	if out.code == impl.OK {
		out.number = a.v
	}
	return out
}

func putByRule(list []impl.Shadow, a shadowAsk) shadowAnswer {
	n := whereByRule(list, a.object, a.id)
	if n < 0 {
		return shadowAnswer{list, 0, impl.ErrNone}
	}
	return shadowAnswer{withShadow(list, n, func(s *impl.Shadow) { s.Value = a.v }), 0, impl.OK}
}

func freeByRule(list []impl.Shadow, a shadowAsk) shadowAnswer {
	n := whereByRule(list, a.object, a.id)
	if n < 0 {
		return shadowAnswer{list, 0, impl.ErrNone}
	}
	return shadowAnswer{slices.Concat(list[:n], list[n+1:]), 0, impl.OK}
}

func freeIdByRule(list []impl.Shadow, a shadowAsk) shadowAnswer {
	out := shadowAnswer{}
	for _, s := range list {
		if s.Id == a.id {
			out.number++
		} else {
			out.list = append(out.list, s)
		}
	}
	return out
}

// answerByRule is what the call must answer, by the document's words.
func (c shadowCall) answerByRule(list []impl.Shadow, ask shadowAsk) shadowAnswer {
	switch {
	case len(list) > 4096:
		return shadowAnswer{code: impl.ErrLong}
	case !shadowsByRule(list):
		return shadowAnswer{code: impl.ErrBad}
	case ask.id < 0 || ask.id > 255:
		return shadowAnswer{code: impl.ErrRange}
	}
	return c.known(list, ask)
}

func (c shadowCall) check(t *testing.T, list []impl.Shadow, ask shadowAsk) {
	t.Helper()
	if got, want := c.call(list, ask), c.answerByRule(list, ask); !got.is(want) {
		t.Errorf("%s of %v in %.400s = %v, not %v", c.name, ask, fmt.Sprint(list), got, want)
	}
}

// asksOf answers what may be asked of a list: what is there, and what is near it, right and wrong.
func asksOf(list []impl.Shadow) []shadowAsk {
	objects, ids := []int{0, 1, leastInt, greatestInt}, []int{0, 7, idLimit}
	for _, s := range list {
		objects = append(objects, s.Object-1, s.Object, s.Object+1)
		ids = append(ids, max(s.Id-1, 0), s.Id, min(s.Id+1, idLimit))
	}
	slices.Sort(objects)
	slices.Sort(ids)
	ids = append(slices.Compact(ids), wrongIds...)
	var asks []shadowAsk
	for _, object := range slices.Compact(objects) {
		for _, id := range ids {
			asks = append(asks, shadowAsk{object, id, someValues[len(asks)%len(someValues)]})
		}
	}
	return asks
}

func TestShadowCallsByTheDocumentsWords(t *testing.T) {
	for _, list := range rightShadows() {
		for _, ask := range asksOf(list) {
			for _, c := range shadowCalls() {
				c.check(t, list, ask)
			}
		}
	}
	d := dice(31)
	codes := map[string]int{}
	for range 20000 {
		list := anyShadows(&d, 40)
		if d.below(8) == 0 {
			spoilShadows(&d, list)
		}
		ask := shadowAsk{drawnObject(&d), drawnId(&d), someValues[d.below(len(someValues))]}
		if len(list) > 0 && d.below(2) == 0 {
			s := list[d.below(len(list))]
			ask.object, ask.id = s.Object, s.Id
		}
		for _, c := range shadowCalls() {
			c.check(t, list, ask)
			codes[fmt.Sprint(c.name, " ", impl.CodeWord(c.call(list, ask).code))]++
		}
	}
	for _, want := range []string{"GetShadow none", "AllocShadow clash", "AllocShadow full", "AllocShadow ok", "GetOrAlloc full", "GetOrAlloc ok", "PutShadow none", "FreeShadow none", "FreeId ok", "FreeId bad"} {
		if codes[want] < 200 {
			t.Error("the dice tell", want, "just", codes[want], "times")
		}
	}
}

// Each element of each list: got, put, freed, asked for; and with one of Object and Id right, the other not.
func TestEachShadowOfAList(t *testing.T) {
	for i, list := range rightShadows() {
		for n, s := range list {
			what := fmt.Sprintf("list %d, %v", i, s)
			if v, code := impl.GetShadow(list, s.Object, s.Id); v != s.Value || code != impl.OK {
				t.Errorf("%s: GetShadow = %d, %d", what, v, code)
			}
			if got, code := impl.AllocShadow(list, s.Object, s.Id, s.Value+1); code != impl.ErrClash || !slices.Equal(got, list) {
				t.Errorf("%s: AllocShadow = %v, %d", what, got, code)
			}
			if got, v, code := impl.GetOrAlloc(list, s.Object, s.Id, s.Value+1); code != impl.OK || v != s.Value || !slices.Equal(got, list) {
				t.Errorf("%s: GetOrAlloc = %v, %d, %d", what, got, v, code)
			}
			for _, v := range append([]int{s.Value}, someValues...) {
				want := slices.Clone(list)
				want[n].Value = v
				if got, code := impl.PutShadow(list, s.Object, s.Id, v); code != impl.OK || !slices.Equal(got, want) {
					t.Errorf("%s: PutShadow of %d = %v, %d", what, v, got, code)
				}
			}
			if got, code := impl.FreeShadow(list, s.Object, s.Id); code != impl.OK || !slices.Equal(got, slices.Delete(slices.Clone(list), n, n+1)) {
				t.Errorf("%s: FreeShadow = %v, %d", what, got, code)
			}
		}
		for _, ask := range asksOf(list) {
			if ask.id < 0 || ask.id > idLimit || whereByRule(list, ask.object, ask.id) >= 0 {
				continue
			}
			if v, code := impl.GetShadow(list, ask.object, ask.id); v != 0 || code != impl.ErrNone {
				t.Errorf("list %d, %v: GetShadow = %d, %d", i, ask, v, code)
			}
			if got, code := impl.PutShadow(list, ask.object, ask.id, ask.v); code != impl.ErrNone || !slices.Equal(got, list) {
				t.Errorf("list %d, %v: PutShadow = %v, %d", i, ask, got, code)
			}
			if got, code := impl.FreeShadow(list, ask.object, ask.id); code != impl.ErrNone || !slices.Equal(got, list) {
				t.Errorf("list %d, %v: FreeShadow = %v, %d", i, ask, got, code)
			}
		}
	}
}

// A new one ahead of all others, between two, behind all, of an object that is there and of one that is not.
func TestWhereANewShadowStands(t *testing.T) {
	list := []impl.Shadow{{Object: -3, Id: 9, Value: 12}, {Object: 5, Id: 1, Value: 11}, {Object: 5, Id: 7, Value: 10}, {Object: 8, Id: 0, Value: 1}}
	for _, v := range []struct{ object, id, place int }{
		{leastInt, 255, 0}, {-4, 255, 0}, {-3, 0, 0}, {-3, 8, 0}, {-3, 10, 1}, {-3, 255, 1}, {-2, 0, 1}, {4, 255, 1}, {5, 0, 1}, {5, 2, 2}, {5, 6, 2}, {5, 8, 3}, {5, 255, 3}, {6, 0, 3}, {7, 255, 3}, {8, 1, 4}, {8, 255, 4}, {9, 0, 4}, {greatestInt, 0, 4}, {greatestInt, 255, 4},
	} {
		for _, value := range someValues {
			want := slices.Insert(slices.Clone(list), v.place, impl.Shadow{Object: v.object, Id: v.id, Value: value})
			got, code := impl.AllocShadow(list, v.object, v.id, value)
			if code != impl.OK || !slices.Equal(got, want) || !impl.ShadowsOK(got) {
				t.Errorf("AllocShadow of %v = %v, %d", v, got, code)
			}
			got, held, code := impl.GetOrAlloc(list, v.object, v.id, value)
			if code != impl.OK || held != value || !slices.Equal(got, want) {
				t.Errorf("GetOrAlloc of %v = %v, %d, %d", v, got, held, code)
			}
		}
	}
	for _, none := range [][]impl.Shadow{nil, {}} {
		for _, object := range farObjects {
			want := []impl.Shadow{{Object: object, Id: 255, Value: -object}}
			if got, code := impl.AllocShadow(none, object, 255, -object); code != impl.OK || !slices.Equal(got, want) {
				t.Errorf("AllocShadow into no list = %v, %d", got, code)
			}
			if got, held, code := impl.GetOrAlloc(none, object, 255, -object); code != impl.OK || held != -object || !slices.Equal(got, want) {
				t.Errorf("GetOrAlloc into no list = %v, %d, %d", got, held, code)
			}
		}
	}
}

// However they come, they stand in their order.
func TestShadowsRiseInWhateverOrderTheyCome(t *testing.T) {
	d := dice(32)
	for _, whole := range [][]impl.Shadow{mixedShadows(), severalShadows(shadowLimit), oneObject(leastInt, shadowLimit), oneId(255, shadowLimit)} {
		for turn := range 200 {
			var list, others []impl.Shadow
			left := slices.Clone(whole)
			for len(left) > 0 {
				n := []int{0, len(left) - 1, d.below(len(left))}[min(turn, 2)]
				s := left[n]
				left = slices.Delete(left, n, n+1)
				got, code := impl.AllocShadow(list, s.Object, s.Id, s.Value)
				other, held, otherCode := impl.GetOrAlloc(others, s.Object, s.Id, s.Value)
				if code != impl.OK || otherCode != impl.OK || held != s.Value || !shadowsByRule(got) || !slices.Equal(got, other) {
					t.Fatalf("%v, %d and %v, %d, %d with %v", got, code, other, held, otherCode, s)
				}
				list, others = got, other
			}
			if !slices.Equal(list, whole) {
				t.Fatalf("%v, not %v", list, whole)
			}
		}
	}
}

// A list of MaxShadows: no new one, but those that are there are told, put and freed.
func TestAFullList(t *testing.T) {
	fulls := 0
	for _, full := range rightShadows() {
		if len(full) < shadowLimit {
			continue
		}
		fulls++
		for _, ask := range asksOf(full) {
			if ask.id < 0 || ask.id > idLimit || whereByRule(full, ask.object, ask.id) >= 0 {
				continue
			}
			for _, v := range someValues {
				if got, code := impl.AllocShadow(full, ask.object, ask.id, v); code != impl.ErrFull || !slices.Equal(got, full) {
					t.Errorf("AllocShadow of %v = %v, %d", ask, got, code)
				}
				if got, held, code := impl.GetOrAlloc(full, ask.object, ask.id, v); code != impl.ErrFull || held != 0 || !slices.Equal(got, full) {
					t.Errorf("GetOrAlloc of %v = %v, %d, %d", ask, got, held, code)
				}
			}
		}
		for n, s := range full {
			if got, code := impl.AllocShadow(full, s.Object, s.Id, 77); code != impl.ErrClash || !slices.Equal(got, full) {
				t.Errorf("AllocShadow of %v = %v, %d", s, got, code)
			}
			if got, held, code := impl.GetOrAlloc(full, s.Object, s.Id, 77); code != impl.OK || held != s.Value || !slices.Equal(got, full) {
				t.Errorf("GetOrAlloc of %v = %v, %d, %d", s, got, held, code)
			}
			// With one less there is room again, for that one and for another.
			less, _ := impl.FreeShadow(full, s.Object, s.Id)
			if got, code := impl.AllocShadow(less, s.Object, s.Id, s.Value); code != impl.OK || !slices.Equal(got, full) {
				t.Errorf("AllocShadow of the %dth again = %v, %d", n, got, code)
			}
			if got, code := impl.AllocShadow(less, 777, 77, 7); code != impl.OK || len(got) != shadowLimit {
				t.Errorf("AllocShadow where the %dth was = %v, %d", n, got, code)
			}
		}
	}
	if fulls < 4 {
		t.Error("only", fulls, "lists are full")
	}
}

// none, one, some and all of an Id, with others between them.
func TestFreeIdsThatAreKnown(t *testing.T) {
	mixed := mixedShadows()
	of := func(places ...int) []impl.Shadow {
		var list []impl.Shadow
		for _, n := range places {
			list = append(list, mixed[n])
		}
		return list
	}
	for _, v := range []struct {
		list []impl.Shadow
		id   int
		n    int
		want []impl.Shadow
	}{
		{mixed, 9, 5, of(0, 2, 4, 5, 6, 7, 10, 11, 13)},
		{mixed, 0, 3, of(1, 2, 3, 4, 6, 7, 8, 9, 10, 12, 13)},
		{mixed, 255, 2, of(0, 1, 3, 4, 5, 6, 7, 8, 9, 10, 11, 12)},
		{mixed, 7, 1, of(0, 1, 2, 3, 5, 6, 7, 8, 9, 10, 11, 12, 13)},
		{mixed, 254, 1, of(0, 1, 2, 3, 4, 5, 6, 7, 8, 9, 11, 12, 13)},
		{mixed, 3, 0, mixed}, {mixed, 253, 0, mixed}, {nil, 0, 0, nil}, {[]impl.Shadow{}, 255, 0, nil},
		{of(4), 7, 1, nil}, {of(4), 8, 0, of(4)}, {of(1, 3, 8), 9, 3, nil}, {of(8, 9), 9, 2, nil}, {of(7, 8, 9), 9, 2, of(7)}, {of(8, 9, 10), 9, 2, of(10)}, {of(3, 4, 8), 9, 2, of(4)},
		{oneId(0, shadowLimit), 0, shadowLimit, nil}, {oneId(255, shadowLimit), 255, shadowLimit, nil}, {oneId(255, shadowLimit), 0, 0, oneId(255, shadowLimit)},
		{oneObject(1, shadowLimit), 15, 1, slices.Delete(oneObject(1, shadowLimit), 1, 2)},
	} {
		if got, n, code := impl.FreeId(v.list, v.id); code != impl.OK || n != v.n || !slices.Equal(got, v.want) {
			t.Errorf("FreeId of %d in %v = %v, %d, %d, not %v, %d", v.id, v.list, got, n, code, v.want, v.n)
		}
	}
}

// ErrLong, ErrBad, ErrRange, then what a call tells of its own: each by itself, and with each later one beside it.
func TestTheOrderOfShadowCodes(t *testing.T) {
	there, none := shadowAsk{10, 0, 5}, shadowAsk{11, 3, 5}
	full := severalShadows(shadowLimit)
	tooLong := [][]impl.Shadow{make([]impl.Shadow, impl.MaxList+1), severalShadows(impl.MaxList + 1), make([]impl.Shadow, impl.MaxList+2), severalShadows(impl.MaxText + 1)}
	fails := func(c shadowCall, what string, list []impl.Shadow, ask shadowAsk, code int) {
		t.Helper()
		if got := c.call(list, ask); !got.is(shadowAnswer{code: code}) {
			t.Errorf("%s, %s, %v: %v, not %s alone", c.name, what, ask, got, impl.CodeWord(code))
		}
	}
	for _, c := range shadowCalls() {
		for _, ask := range []shadowAsk{there, none, {leastInt, 0, 0}, {0, 255, leastInt}} {
			for _, id := range append([]int{ask.id}, wrongIds...) {
				asked := shadowAsk{ask.object, id, ask.v}
				for _, list := range tooLong {
					fails(c, "too long", list, asked, impl.ErrLong)
				}
				for what, list := range wrongShadows() {
					fails(c, what, list, asked, impl.ErrBad)
				}
				if id == ask.id {
					continue
				}
				for _, list := range append(rightShadows(), full, full[:15]) {
					fails(c, "a right list", list, asked, impl.ErrRange)
				}
			}
		}
	}
	// ErrClash comes ahead of ErrFull, and ErrNone is told of a full list, too.
	for name, code := range map[string]int{"GetShadow": impl.OK, "AllocShadow": impl.ErrClash, "GetOrAlloc": impl.OK, "PutShadow": impl.OK, "FreeShadow": impl.OK, "FreeId": impl.OK} {
		shadowCodeIs(t, name, full, shadowAsk{full[8].Object, full[8].Id, 5}, code)
	}
	for name, code := range map[string]int{"GetShadow": impl.ErrNone, "AllocShadow": impl.ErrFull, "GetOrAlloc": impl.ErrFull, "PutShadow": impl.ErrNone, "FreeShadow": impl.ErrNone, "FreeId": impl.OK} {
		shadowCodeIs(t, name, full, none, code)
	}
}

func shadowCodeIs(t *testing.T, name string, list []impl.Shadow, ask shadowAsk, code int) {
	t.Helper()
	for _, c := range shadowCalls() {
		if got := c.call(list, ask); c.name == name && got.code != code {
			t.Errorf("%s of %v: %v, not %s", name, ask, got, impl.CodeWord(code))
		}
	}
}
