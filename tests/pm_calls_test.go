package tests

import (
	"math"
	"testing"

	"loop.example/g00410/impl"
)

func TestP1RightMemories(t *testing.T) {
	for _, m := range rightMemories() {
		if !impl.PmOK(m.pm) {
			t.Errorf("%s: PmOK is false", m.name)
		}
		for _, c := range memoryCalls(m.pm, 0, 0, []int{1}) {
			if c.name == "PmStore" && len(m.pm.Pending) == mostStores {
				wantAsItWas(t, m.name, c, impl.ErrFull)
			} else {
				wantCode(t, m.name, c, impl.OK)
			}
		}
	}
}

// The other arguments are wrong too: ErrBad comes ahead of their codes.
func TestP1WrongMemories(t *testing.T) {
	others := []struct {
		at, v int
		keeps []int
	}{{0, 0, nil}, {-1, 0, []int{1}}, {impl.PmSize, -1, []int{401}}, {0, impl.MaxWord, []int{-1}}}
	for _, m := range wrongMemories() {
		if impl.PmOK(m.pm) {
			t.Errorf("%s: PmOK is true", m.name)
		}
		for _, o := range others {
			for _, c := range memoryCalls(m.pm, o.at, o.v, o.keeps) {
				wantCode(t, m.name, c, impl.ErrBad)
			}
		}
	}
}

// A store's value that is no word and a full memory are told behind the place.
func TestP1NoPlaces(t *testing.T) {
	for _, m := range rightMemories() {
		for _, at := range []int{-1, -impl.LineSize, impl.PmSize, impl.PmSize + 1, math.MinInt, math.MaxInt} {
			for _, v := range []int{0, -1, impl.MaxWord} {
				for _, c := range memoryCallsAt(m.pm, at, v) {
					wantCode(t, m.name, c, impl.ErrPlace)
				}
			}
		}
	}
}

func TestP1StoresOfNoWord(t *testing.T) {
	for _, m := range rightMemories() {
		for _, v := range []int{-1, impl.MaxWord, impl.MaxWord + 1, math.MinInt, math.MaxInt} {
			wantCode(t, m.name, ask("PmStore", impl.PmStore, m.pm, 0, v), impl.ErrRange)
		}
	}
}

func TestP1StoreUntilFull(t *testing.T) {
	p := zeroMemory()
	for i := range mostStores {
		x, code := impl.PmStore(p, i%impl.PmSize, i)
		if code != impl.OK || len(x.Pending) != i+1 {
			t.Fatalf("store %d has the code %d and leaves %d stores", i, code, len(x.Pending))
		}
		p = x
	}
	wantAsItWas(t, "full by stores", ask("PmStore", impl.PmStore, p, 0, 1), impl.ErrFull)
}

func TestP1KeepsOfMemories(t *testing.T) {
	for _, m := range rightMemories() {
		for _, keeps := range wrongKeeps() {
			wantCode(t, m.name, ask("PmCrash", impl.PmCrash, m.pm, keeps), impl.ErrRange)
		}
		wantCode(t, m.name, ask("PmCrash", impl.PmCrash, m.pm, make([]int, impl.MaxList)), impl.OK)
	}
	for _, m := range append(rightMemories(), wrongMemories()...) {
		for _, keeps := range longKeeps() {
			wantCode(t, m.name, ask("PmCrash", impl.PmCrash, m.pm, keeps), impl.ErrLong)
		}
	}
}

func TestP1MemoriesUntouched(t *testing.T) {
	for _, m := range append(rightMemories(), wrongMemories()...) {
		calls := []asked{ask("PmOK", impl.PmOK, m.pm)}
		calls = append(calls, memoryCalls(m.pm, 0, 0, nil)...)
		calls = append(calls, memoryCalls(m.pm, 3, 77, []int{1})...)
		calls = append(calls, memoryCalls(m.pm, impl.PmSize-1, impl.MaxWord-1, []int{400, 0, 2})...)
		calls = append(calls, memoryCalls(m.pm, -1, -1, []int{-1})...)
		calls = append(calls, memoryCalls(m.pm, impl.PmSize, impl.MaxWord, make([]int, impl.MaxList+1))...)
		wantPromise1(t, m.name, calls)
	}
}

func TestP1NilIsEmpty(t *testing.T) {
	withNil := impl.Pm{Words: make([]int, impl.PmSize), Pending: nil}
	withEmpty := impl.Pm{Words: make([]int, impl.PmSize), Pending: []impl.Store{}}
	want := memoryCalls(withNil, 3, 5, nil)
	for i, c := range memoryCalls(withEmpty, 3, 5, []int{}) {
		if !allAlike(c.plainAnswers(), want[i].plainAnswers(), false) {
			t.Errorf("%s takes nil and empty lists as two things", c.name)
		}
	}
	stored := numberedMemory(storesOf(9, 1, 2, 3)...)
	a, _ := impl.PmCrash(stored, nil)
	b, _ := impl.PmCrash(stored, []int{})
	if !samePm(a, b) {
		t.Error("PmCrash takes nil and empty keeps as two things")
	}
}
