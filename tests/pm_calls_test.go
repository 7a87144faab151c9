package tests

import (
	"math"
	"slices"
	"testing"

	"loop.example/g00410/impl"
)

func TestP1RightMemories(t *testing.T) {
	for _, m := range rightMemories() {
		if !impl.PmOK(m.pm) {
			t.Errorf("%s: PmOK is false", m.name)
		}
		for _, c := range memoryCalls(0, 0, []int{1}) {
			want := impl.OK
			if c.name == "PmStore" && len(m.pm.Pending) == mostStores {
				want = impl.ErrFull
			}
			if got := c.do(m.pm); got.code != want {
				t.Errorf("%s: %s has the code %d", m.name, c.name, got.code)
			}
		}
	}
}

// The other arguments are wrong too: ErrBad comes ahead of their codes.
func TestP1WrongMemories(t *testing.T) {
	others := []struct {
		at, v int
		keeps []int
	}{{0, 0, nil}, {-1, 0, []int{1}}, {impl.PmSize, -1, []int{401}}, {0, impl.MaxWord, []int{-1}}}
	for _, m := range wrongMemories() {
		if impl.PmOK(m.pm) {
			t.Errorf("%s: PmOK is true", m.name)
		}
		for _, o := range others {
			for _, c := range memoryCalls(o.at, o.v, o.keeps) {
				if got := c.do(m.pm); got.code != impl.ErrBad || !isZeroOutcome(got) {
					t.Errorf("%s: %s has the code %d, or more than a code", m.name, c.name, got.code)
				}
			}
		}
	}
}

// A store's value that is no word and a full memory are told behind the place.
func TestP1NoPlaces(t *testing.T) {
	for _, m := range rightMemories() {
		for _, at := range []int{-1, -impl.LineSize, impl.PmSize, impl.PmSize + 1, math.MinInt, math.MaxInt} {
			for _, v := range []int{0, -1, impl.MaxWord} {
				for _, c := range memoryCalls(at, v, nil)[:3] {
					if got := c.do(m.pm); got.code != impl.ErrPlace || !isZeroOutcome(got) {
						t.Errorf("%s: %s at %d has the code %d, or more than a code", m.name, c.name, at, got.code)
					}
				}
			}
		}
	}
}

func TestP1StoresOfNoWord(t *testing.T) {
	for _, m := range rightMemories() {
		for _, v := range []int{-1, impl.MaxWord, impl.MaxWord + 1, math.MinInt, math.MaxInt} {
			if x, code := impl.PmStore(m.pm, 0, v); code != impl.ErrRange || !isZeroPm(x) {
				t.Errorf("%s: PmStore of %d has the code %d, or more than a code", m.name, v, code)
			}
		}
	}
}

func TestP1StoreUntilFull(t *testing.T) {
	p := zeroMemory()
	for i := range mostStores {
		x, code := impl.PmStore(p, i%impl.PmSize, i)
		if code != impl.OK || len(x.Pending) != i+1 {
			t.Fatalf("store %d has the code %d and leaves %d stores", i, code, len(x.Pending))
		}
		p = x
	}
	if x, code := impl.PmStore(p, 0, 1); code != impl.ErrFull || !samePm(x, p) {
		t.Errorf("store %d has the code %d, or the memory is not as it was", mostStores, code)
	}
}

func TestP1KeepsOutOfRange(t *testing.T) {
	longest := make([]int, impl.MaxList)
	longest[impl.MaxList-1] = 401
	wrong := [][]int{{-1}, {401}, {0, -1}, {400, 401}, {1, 2, 3, 4, 5, 6, 7, 8, -1}, {math.MinInt}, {math.MaxInt}, longest}
	for _, m := range rightMemories() {
		for _, keeps := range wrong {
			if x, code := impl.PmCrash(m.pm, keeps); code != impl.ErrRange || !isZeroPm(x) {
				t.Errorf("%s: PmCrash with %d keeps has the code %d, or more than a code", m.name, len(keeps), code)
			}
		}
	}
}

func TestP1KeepsTooLong(t *testing.T) {
	long := make([]int, impl.MaxList+1)
	longAndWrong := slices.Clone(long)
	longAndWrong[0] = -1
	for _, m := range append(rightMemories(), wrongMemories()...) {
		for _, keeps := range [][]int{long, longAndWrong, make([]int, 3*impl.MaxList)} {
			if x, code := impl.PmCrash(m.pm, keeps); code != impl.ErrLong || !isZeroPm(x) {
				t.Errorf("%s: PmCrash with %d keeps has the code %d, or more than a code", m.name, len(keeps), code)
			}
		}
	}
	for _, m := range rightMemories() {
		if _, code := impl.PmCrash(m.pm, make([]int, impl.MaxList)); code != impl.OK {
			t.Errorf("%s: PmCrash with the most keeps has the code %d", m.name, code)
		}
	}
}

func manyArguments() []memoryCall {
	var list []memoryCall
	list = append(list, memoryCalls(0, 0, nil)...)
	list = append(list, memoryCalls(3, 77, []int{1})...)
	list = append(list, memoryCalls(impl.PmSize-1, impl.MaxWord-1, []int{400, 0, 2})...)
	list = append(list, memoryCalls(-1, -1, []int{-1})...)
	list = append(list, memoryCalls(impl.PmSize, impl.MaxWord, make([]int, impl.MaxList+1))...)
	return list
}

func TestP1ArgumentsStayAsTheyAre(t *testing.T) {
	for _, m := range append(rightMemories(), wrongMemories()...) {
		for _, c := range manyArguments() {
			p := withRoomPm(m.pm)
			want := copyMemory(wholePm(p))
			impl.PmOK(p)
			got := c.do(p)
			if !samePm(wholePm(p), want) {
				t.Errorf("%s: %s changes its argument", m.name, c.name)
			}
			scribblePm(got.pm)
			scribbleInts(got.list)
			if !samePm(wholePm(p), want) {
				t.Errorf("%s: writing into the answer of %s changes its argument", m.name, c.name)
			}
		}
	}
}

func TestP1KeepsStayAsTheyAre(t *testing.T) {
	lists := [][]int{{}, {1}, {2, 0}, {400, 401}, {-1}, make([]int, impl.PmSize), make([]int, impl.MaxList+1)}
	for _, m := range append(rightMemories(), wrongMemories()...) {
		for _, list := range lists {
			keeps := withRoom(list, sentinel)
			want := slices.Clone(keeps[:cap(keeps)])
			x, _ := impl.PmCrash(m.pm, keeps)
			scribblePm(x)
			if !slices.Equal(keeps[:cap(keeps)], want) {
				t.Errorf("%s: PmCrash changes its %d keeps", m.name, len(list))
			}
		}
	}
}

// Every call is asked twice, all the others being called in between, and then of a copy.
func TestP1AlikeAnswers(t *testing.T) {
	memories := append(rightMemories(), wrongMemories()...)
	calls := manyArguments()
	var first []outcome
	for _, m := range memories {
		for _, c := range calls {
			first = append(first, c.do(m.pm))
		}
	}
	for i, m := range memories {
		for j, c := range calls {
			want := first[i*len(calls)+j]
			if !sameOutcome(c.do(m.pm), want) || !sameOutcome(c.do(withRoomPm(m.pm)), want) {
				t.Errorf("%s: %s answers otherwise the second time", m.name, c.name)
			}
		}
	}
}

func TestP1NilIsEmpty(t *testing.T) {
	withNil := impl.Pm{Words: make([]int, impl.PmSize), Pending: nil}
	withEmpty := impl.Pm{Words: make([]int, impl.PmSize), Pending: []impl.Store{}}
	ofNil, ofEmpty := memoryCalls(3, 5, nil), memoryCalls(3, 5, []int{})
	for i, c := range ofNil {
		want := c.do(withNil)
		if !sameOutcome(c.do(withEmpty), want) || !sameOutcome(ofEmpty[i].do(withNil), want) {
			t.Errorf("%s takes nil and empty lists as two things", c.name)
		}
	}
	stored := numberedMemory(storesOf(9, 1, 2, 3)...)
	a, _ := impl.PmCrash(stored, nil)
	b, _ := impl.PmCrash(stored, []int{})
	if !samePm(a, b) {
		t.Error("PmCrash takes nil and empty keeps as two things")
	}
}
