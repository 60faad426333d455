package tests

import (
	"fmt"
	"slices"
	"testing"

	"loop.example/g00654/impl"
)

// areaNumbers has numbers about the bounds of what an area may have, and such as turn over.
var areaNumbers = []int{0, 1, 4, 7, 8, 9, 16, 24, 1024, 4096, 4100, 8192, 1048552, 1048560, 1048564, 1048568, 1048572, 1048575, 1048576, 1048577, 1048584, 2097152,
	-1, -4, -8, -16, -1048576, 1 << 32, 1<<32 + 8, 1<<32 + 8192, leastInt, leastInt + 8, greatestInt, greatestInt - 7, greatestInt - 1023}

// areaByRule tells whether it is an area, by the document's words.
func areaByRule(a impl.Area) bool {
	for _, v := range []int{a.Base, a.Size, a.Top} {
		if v%8 != 0 {
			return false
		}
	}
	if a.Base < 0 || a.Base > 1048575 {
		return false
	}
	if a.Size < 0 || a.Size > 1048575+1-a.Base {
		return false
	}
	return a.Top >= a.Base && a.Top <= a.Base+a.Size
}

func rightAreas() []impl.Area {
	return []impl.Area{
		{}, {Base: 8, Top: 8}, {Base: 8192, Size: 1024, Top: 8192}, {Base: 8192, Size: 1024, Top: 8200}, {Base: 8192, Size: 1024, Top: 9208}, {Base: 8192, Size: 1024, Top: 9216},
		{Base: 20480, Size: 256, Top: 20488}, {Size: 8}, {Size: 8, Top: 8}, {Size: 1048576}, {Size: 1048576, Top: 1048576}, {Size: 1048576, Top: 524288}, {Size: 1048576, Top: 1044480},
		{Base: 1048568, Size: 8, Top: 1048568}, {Base: 1048568, Size: 8, Top: 1048576}, {Base: 1048568, Top: 1048568}, {Base: 4096, Size: 4096, Top: 4096}, {Base: 4096, Size: 4104, Top: 4104},
	}
}

func wrongAreas() []impl.Area {
	return []impl.Area{
		{Base: 4}, {Size: 4}, {Top: 4}, {Base: 4, Top: 4}, {Base: 4, Size: 8, Top: 8}, {Size: 12}, {Size: 12, Top: 8}, {Size: 16, Top: 12}, {Base: 8}, {Top: 8}, {Base: -8, Top: -8}, {Base: -8, Size: 16, Top: -8}, {Base: -8, Size: 16}, {Size: -8}, {Size: -8, Top: -8}, {Top: -8}, {Base: 16, Size: -8, Top: 8},
		{Base: 8, Size: 8, Top: 24}, {Base: 8, Size: 8}, {Base: 1048576, Top: 1048576}, {Base: 1048576}, {Base: 1048584, Top: 1048584}, {Base: 1048568, Size: 16, Top: 1048568}, {Size: 1048584}, {Size: 1048584, Top: 1048584}, {Base: 8, Size: 1048576, Top: 8},
		{Base: leastInt, Size: leastInt}, {Base: leastInt, Top: leastInt}, {Base: leastInt, Size: greatestInt - 7, Top: leastInt}, {Base: 8, Size: greatestInt - 7, Top: 8}, {Base: greatestInt - 7, Size: 16, Top: greatestInt - 7}, {Base: 8, Size: leastInt, Top: 8}, {Size: 1 << 32, Top: 8}, {Size: 8, Top: 1 << 32},
	}
}

func TestAreasThatAreKnown(t *testing.T) {
	for _, a := range rightAreas() {
		if !impl.AreaOK(a) || !areaByRule(a) {
			t.Errorf("AreaOK(%v) = false", a)
		}
	}
	for _, a := range wrongAreas() {
		if impl.AreaOK(a) || areaByRule(a) {
			t.Errorf("AreaOK(%v) = true", a)
		}
	}
}

func TestAreasByTheDocumentsWords(t *testing.T) {
	right := 0
	for _, base := range areaNumbers {
		for _, size := range areaNumbers {
			for _, top := range slices.Concat(areaNumbers, []int{base, base + size, base + size + 8, base - 8}) {
				a := impl.Area{Base: base, Size: size, Top: top}
				if impl.AreaOK(a) != areaByRule(a) {
					t.Errorf("AreaOK(%v) = %v", a, !areaByRule(a))
				}
				right += oneIf(areaByRule(a))
			}
		}
	}
	if right < 100 {
		t.Error("only", right, "areas are right")
	}
	// All numbers near the bounds, not the multiples alone.
	for base := -20; base <= 20; base++ {
		for size := -20; size <= 20; size++ {
			for top := -40; top <= 40; top++ {
				for _, from := range []int{0, 1048576} {
					a := impl.Area{Base: from + base, Size: size, Top: from + top}
					if impl.AreaOK(a) != areaByRule(a) {
						t.Errorf("AreaOK(%v) = %v", a, !areaByRule(a))
					}
				}
			}
		}
	}
}

// placeByRule is what PlaceIn must answer.
func placeByRule(a impl.Area, n int) (impl.Area, int, int) {
	if !areaByRule(a) {
		return impl.Area{}, 0, impl.ErrBad
	}
	if n < 1 || n > 4096 {
		return impl.Area{}, 0, impl.ErrRange
	}
	for n%8 != 0 {
		n++
	}
	if a.Top+n > a.Base+a.Size {
		return a, 0, impl.ErrFull
	}
	return impl.Area{Base: a.Base, Size: a.Size, Top: a.Top + n}, a.Top, impl.OK
}

func checkPlaceIn(t *testing.T, a impl.Area, n int) {
	t.Helper()
	got, at, code := impl.PlaceIn(a, n)
	if want, wantAt, wantCode := placeByRule(a, n); got != want || at != wantAt || code != wantCode {
		t.Errorf("PlaceIn(%v, %d) = %v, %d, %s, not %v, %d, %s", a, n, got, at, impl.CodeWord(code), want, wantAt, impl.CodeWord(wantCode))
	}
}

var wrongLengths = []int{0, -1, -7, -8, -4096, 4097, 4098, 4104, 8192, 1 << 32, 1<<32 + 8, leastInt, leastInt + 8, greatestInt, greatestInt - 7}

func TestPlaceInByTheDocumentsWords(t *testing.T) {
	for _, a := range slices.Concat(rightAreas(), wrongAreas()) {
		for n := -20; n <= 4120; n++ {
			checkPlaceIn(t, a, n)
		}
		for _, n := range slices.Concat(wrongLengths, areaNumbers) {
			checkPlaceIn(t, a, n)
		}
	}
}

// Room for just so much, for 8 bytes less, for none; ahead of it something is taken, or nothing.
func TestPlaceInWithJustTheRoom(t *testing.T) {
	for n := 1; n <= 4096; n++ {
		taken := n + (8-n%8)%8
		for _, base := range []int{0, 8192, 1048576 - 8 - taken} {
			for _, top := range []int{base, base + 8} {
				just := impl.Area{Base: base, Size: top - base + taken, Top: top}
				if got, at, code := impl.PlaceIn(just, n); code != impl.OK || at != top || got != (impl.Area{Base: base, Size: just.Size, Top: base + just.Size}) {
					t.Errorf("PlaceIn(%v, %d) = %v, %d, %d", just, n, got, at, code)
				}
				for _, less := range []int{8, taken} {
					small := impl.Area{Base: base, Size: just.Size - less, Top: top}
					if got, at, code := impl.PlaceIn(small, n); code != impl.ErrFull || at != 0 || got != small {
						t.Errorf("PlaceIn(%v, %d) = %v, %d, %d", small, n, got, at, code)
					}
				}
			}
		}
	}
}

func TestPlaceInTellsItsFirstFault(t *testing.T) {
	for _, n := range wrongLengths {
		for _, a := range wrongAreas() {
			if got, at, code := impl.PlaceIn(a, n); got != (impl.Area{}) || at != 0 || code != impl.ErrBad {
				t.Errorf("PlaceIn(%v, %d) = %v, %d, %d, not ErrBad", a, n, got, at, code)
			}
		}
		// Of a full area, too.
		for _, a := range append(rightAreas(), impl.Area{Base: 8192, Size: 1024, Top: 9216}) {
			if got, at, code := impl.PlaceIn(a, n); got != (impl.Area{}) || at != 0 || code != impl.ErrRange {
				t.Errorf("PlaceIn(%v, %d) = %v, %d, %d, not ErrRange", a, n, got, at, code)
			}
		}
	}
	for _, n := range []int{1, 8, 9, 4096} {
		for _, a := range wrongAreas() {
			if got, at, code := impl.PlaceIn(a, n); got != (impl.Area{}) || at != 0 || code != impl.ErrBad {
				t.Errorf("PlaceIn(%v, %d) = %v, %d, %d, not ErrBad", a, n, got, at, code)
			}
		}
	}
}

// What is placed lies side by side, each at a multiple of 8, until there is no room.
func TestWhatIsPlacedLiesSideBySide(t *testing.T) {
	d := dice(20)
	for range 300 {
		base := 8 * d.below(1000)
		a := impl.Area{Base: base, Size: 8 * d.below(400), Top: base}
		end := base
		for range 100 {
			n := 1 + d.below(60)
			next, at, code := impl.PlaceIn(a, n)
			if code == impl.ErrFull {
				if next != a || base+a.Size-end >= n+7 {
					t.Fatalf("no room for %d in %v", n, a)
				}
				continue
			}
			if code != impl.OK || at != end || at%8 != 0 || next.Top < at+n || next.Top > at+n+7 || next.Base != base || next.Size != a.Size {
				t.Fatalf("PlaceIn(%v, %d) = %v, %d, %d", a, n, next, at, code)
			}
			a, end = next, next.Top
		}
		if !impl.AreaOK(a) {
			t.Fatal("no area any more:", a)
		}
	}
	for n, want := range map[int]int{1: 8, 7: 8, 8: 8, 9: 16, 15: 16, 16: 16, 17: 24, 4089: 4096, 4095: 4096, 4096: 4096} {
		if a, at, code := impl.PlaceIn(impl.Area{Base: 64, Size: 8192, Top: 128}, n); a.Top != 128+want || at != 128 || code != impl.OK {
			t.Error(fmt.Sprint("PlaceIn of ", n, " bytes:"), a, at, code)
		}
	}
}
