package tests

import (
	"fmt"
	"math"
	"slices"
	"testing"

	"loop.example/g00410/impl"
)

func TestP1LimitsOfJournals(t *testing.T) {
	if impl.MaxUpdates != mostUpdates {
		t.Error("MaxUpdates is", impl.MaxUpdates)
	}
	kinds := []int{impl.MiStore, impl.MiFlush, impl.MiFence, impl.MiWrite, impl.MiBarrier}
	if !slices.Equal(kinds, []int{1, 2, 3, 4, 5}) {
		t.Error("the kinds of steps are", kinds)
	}
}

func TestP1DevicesOK(t *testing.T) {
	for _, d := range rightPairs() {
		if !impl.DevicesOK(d.devices) {
			t.Errorf("%s: DevicesOK is false", d.name)
		}
	}
	for _, d := range wrongPairs() {
		if impl.DevicesOK(d.devices) {
			t.Errorf("%s: DevicesOK is true", d.name)
		}
	}
}

func hasNoRoom(d impl.Devices, m impl.Micro) bool {
	return m.Kind == impl.MiStore && len(d.Pm.Pending) == mostStores || m.Kind == impl.MiWrite && len(d.Blk.Pending) == mostWrites
}

func TestP1RightSteps(t *testing.T) {
	for _, d := range rightPairs() {
		for _, m := range rightSteps() {
			where := fmt.Sprint(d.name, ": ", m)
			for _, c := range stepCalls(d.devices, m) {
				if hasNoRoom(d.devices, m) {
					wantAsItWas(t, where, c, impl.ErrFull)
				} else {
					wantCode(t, where, c, impl.OK)
				}
			}
		}
		wantAsItWas(t, d.name, ask("MicrosDo", impl.MicrosDo, d.devices, []impl.Micro(nil)), impl.OK)
	}
}

// One wrong step is enough, wherever it stands, also behind one that has no room.
func TestP1WrongSteps(t *testing.T) {
	full := impl.Devices{Pm: numberedMemory(storesOf(mostStores, 3)...), Blk: numberedDevice(writesOf(mostWrites, 3)...)}
	for _, d := range []impl.Devices{zeroPair(), full} {
		for _, m := range wrongSteps() {
			where := fmt.Sprint(m)
			wantCode(t, where, ask("MicroDo", impl.MicroDo, d, m), impl.ErrBad)
			for at := range 4 {
				list := slices.Insert([]impl.Micro{storeStep(1, 2), writeStep(1, 2), fenceStep()}, at, m)
				wantCode(t, where, ask("MicrosDo", impl.MicrosDo, d, list), impl.ErrBad)
			}
		}
	}
}

func TestP1StepsOnWrongDevices(t *testing.T) {
	for _, d := range wrongPairs() {
		for _, m := range append(rightSteps(), impl.Micro{}, storeStep(-1, 0), writeStep(0, -1)) {
			for _, c := range stepCalls(d.devices, m) {
				wantCode(t, d.name, c, impl.ErrBad)
			}
		}
		wantCode(t, d.name, ask("MicrosDo", impl.MicrosDo, d.devices, []impl.Micro(nil)), impl.ErrBad)
	}
}

func TestP1ManySteps(t *testing.T) {
	most := slices.Repeat([]impl.Micro{storeStep(1, 2), flushStep(1), fenceStep(), barrierStep()}, impl.MaxList/4)
	wantCode(t, "as many as a list has", ask("MicrosDo", impl.MicrosDo, zeroPair(), most), impl.OK)
	long := append(most, fenceStep())
	for _, d := range []impl.Devices{zeroPair(), {}} {
		wantCode(t, "one too many", ask("MicrosDo", impl.MicrosDo, d, long), impl.ErrLong)
		wantCode(t, "too many that are none", ask("MicrosDo", impl.MicrosDo, d, make([]impl.Micro, impl.MaxList+1)), impl.ErrLong)
	}
	most[impl.MaxList-1] = impl.Micro{}
	wantCode(t, "the last one is none", ask("MicrosDo", impl.MicrosDo, zeroPair(), most), impl.ErrBad)
}

// Steps behind the one that has no room are not done, those ahead of it are.
func TestP1StepsAheadOfOneWithoutRoom(t *testing.T) {
	almost := impl.Devices{Pm: numberedMemory(storesOf(mostStores-1, 3, 40)...), Blk: numberedDevice(writesOf(mostWrites-1, 3, 20)...)}
	cases := []struct {
		list []impl.Micro
		done int
	}{
		{[]impl.Micro{storeStep(1, 1), storeStep(2, 2)}, 1},
		{[]impl.Micro{writeStep(1, 1), writeStep(2, 2)}, 1},
		{[]impl.Micro{storeStep(1, 1), writeStep(2, 2), flushStep(1), storeStep(3, 3), fenceStep(), barrierStep()}, 3},
		{[]impl.Micro{writeStep(1, 1), storeStep(2, 2), flushStep(2), fenceStep(), storeStep(3, 3), writeStep(4, 4), barrierStep()}, 5},
		{[]impl.Micro{storeStep(1, 1), fenceStep(), storeStep(2, 2), barrierStep()}, 4},
		{[]impl.Micro{storeStep(1, 1), flushStep(1), fenceStep(), storeStep(2, 2)}, 4},
		{[]impl.Micro{writeStep(1, 1), barrierStep(), writeStep(2, 2)}, 3},
		{[]impl.Micro{storeStep(1, 1), writeStep(2, 2)}, 2},
	}
	for i, c := range cases {
		want, wantedCode := almost, impl.OK
		if c.done < len(c.list) {
			wantedCode = impl.ErrFull
		}
		for _, m := range c.list[:c.done] {
			want, _ = impl.MicroDo(want, m)
		}
		got, code := impl.MicrosDo(almost, c.list)
		if code != wantedCode || !samePair(got, want) {
			t.Errorf("case %d has the code %d, %d stores and %d writes", i, code, len(got.Pm.Pending), len(got.Blk.Pending))
		}
	}
}

func TestP1PlacesToFlush(t *testing.T) {
	for _, n := range []int{1, 2, mostFlushes} {
		for _, at := range noIndexes(impl.PmSize - 1) {
			for _, i := range []int{0, n / 2, n - 1} {
				places := make([]int, n)
				places[i] = at
				wantCode(t, fmt.Sprint(at, " among ", n), ask("FlushPlan", impl.FlushPlan, places), impl.ErrPlace)
			}
		}
	}
	for _, n := range []int{0, 1, mostFlushes} {
		wantCode(t, fmt.Sprint(n), ask("FlushPlan", impl.FlushPlan, make([]int, n)), impl.OK)
	}
}

// More than there may be is told ahead of places that are none.
func TestP1ManyPlacesToFlush(t *testing.T) {
	for _, at := range []int{0, impl.PmSize - 1, -1, impl.PmSize} {
		for n, code := range map[int]int{mostFlushes + 1: impl.ErrMany, 400: impl.ErrMany, impl.MaxList: impl.ErrMany, impl.MaxList + 1: impl.ErrLong} {
			places := slices.Repeat([]int{at}, n)
			wantCode(t, fmt.Sprint(n, " times ", at), ask("FlushPlan", impl.FlushPlan, places), code)
		}
	}
}

func wrongUpdates() []impl.Update {
	list := []impl.Update{{}, {At: impl.JournalAt, Value: 1}, {At: impl.InodeAt - 1, Value: 1}, {At: impl.InodeAt - 1, Value: -1}}
	for _, at := range noIndexes(impl.PmSize - 1) {
		list = append(list, impl.Update{At: at, Value: 1})
	}
	for _, v := range noIndexes(impl.MaxWord - 1) {
		list = append(list, impl.Update{At: impl.InodeAt, Value: v})
	}
	return list
}

func TestP1WrongUpdates(t *testing.T) {
	for _, u := range wrongUpdates() {
		for _, n := range []int{1, 2, 3, mostUpdates} {
			for _, at := range []int{0, n / 2, n - 1} {
				list := updatesOf(n, 60)
				list[at] = u
				wantCode(t, fmt.Sprint(u, " at ", at), ask("JournalPlan", impl.JournalPlan, list), impl.ErrBad)
			}
		}
	}
	for _, j := range rightJournals() {
		wantCode(t, j.name, ask("JournalPlan", impl.JournalPlan, j.list), impl.OK)
	}
}

// More than there may be is told ahead of updates that are none.
func TestP1ManyUpdates(t *testing.T) {
	for _, u := range []impl.Update{{At: 60, Value: 1}, {}, {At: 60, Value: -1}} {
		for n, code := range map[int]int{mostUpdates + 1: impl.ErrMany, 400: impl.ErrMany, impl.MaxList: impl.ErrMany, impl.MaxList + 1: impl.ErrLong} {
			list := slices.Repeat([]impl.Update{u}, n)
			wantCode(t, fmt.Sprint(n, " times ", u), ask("JournalPlan", impl.JournalPlan, list), code)
		}
	}
}

func TestP1Counts(t *testing.T) {
	sixteen := updatesOf(mostUpdates, 60)
	for n := range mostUpdates + 1 {
		p := noted(n, sixteen...)
		if got, code := impl.JournalCount(p); got != n || code != impl.OK {
			t.Errorf("JournalCount of %d = %d, code %d", n, got, code)
		}
		wantCode(t, fmt.Sprint(n), ask("ReplayPlan", impl.ReplayPlan, p), impl.OK)
	}
	for _, n := range []int{mostUpdates + 1, mostUpdates + 2, 32, 400, impl.MaxWord - 1} {
		for _, c := range replayCalls(noted(n, sixteen...)) {
			wantCode(t, fmt.Sprint(n), c, impl.ErrForm)
		}
	}
	for _, n := range []int{-1, impl.MaxWord, math.MinInt, math.MaxInt} {
		for _, c := range replayCalls(noted(n, sixteen...)) {
			wantCode(t, fmt.Sprint(n), c, impl.ErrBad)
		}
	}
	for _, m := range wrongMemories() {
		for _, c := range replayCalls(m.pm) {
			wantCode(t, m.name, c, impl.ErrBad)
		}
	}
}

// A count is told whatever stands behind it; a replay is not.
func TestP1NotedUpdatesThatAreWrong(t *testing.T) {
	for _, at := range []int{0, 7, impl.JournalAt, impl.InodeAt - 1, impl.PmSize, 1008, impl.MaxWord - 1} {
		for _, n := range []int{1, 2, mostUpdates} {
			for i := range n {
				list := updatesOf(n, 60)
				list[i].At = at
				where := fmt.Sprintf("%d at %d of %d", at, i, n)
				wantCode(t, where, ask("ReplayPlan", impl.ReplayPlan, noted(n, list...)), impl.ErrForm)
				wantCode(t, where, ask("JournalCount", impl.JournalCount, noted(n, list...)), impl.OK)
				wantCode(t, "not counted: "+where, ask("ReplayPlan", impl.ReplayPlan, noted(i, list...)), impl.OK)
			}
		}
	}
	wantCode(t, "no words that are right, none counted", ask("ReplayPlan", impl.ReplayPlan, noted(0)), impl.OK)
}

func TestP1JournalsUntouched(t *testing.T) {
	for _, d := range append(rightPairs(), wrongPairs()...) {
		calls := []asked{ask("DevicesOK", impl.DevicesOK, d.devices)}
		calls = append(calls, stepCalls(d.devices)...)
		calls = append(calls, stepCalls(d.devices, storeStep(3, 77), flushStep(3), fenceStep(), writeStep(3, 77), barrierStep())...)
		calls = append(calls, stepCalls(d.devices, writeStep(3, 77), storeStep(3, 77), storeStep(4, 78), writeStep(4, 78))...)
		calls = append(calls, stepCalls(d.devices, storeStep(3, 77), impl.Micro{}, storeStep(math.MinInt, math.MaxInt))...)
		calls = append(calls, replayCalls(d.devices.Pm)...)
		wantPromise1(t, d.name, calls)
	}
}

func TestP1PlansUntouched(t *testing.T) {
	var calls []asked
	for _, places := range [][]int{nil, {3}, {17, 3, 16, 0, 300}, make([]int, mostFlushes), {5, -1}, make([]int, impl.MaxList+1)} {
		calls = append(calls, ask("FlushPlan", impl.FlushPlan, places))
	}
	for _, list := range [][]impl.Update{nil, {{}}, make([]impl.Update, mostUpdates+1), make([]impl.Update, impl.MaxList+1)} {
		calls = append(calls, ask("JournalPlan", impl.JournalPlan, list))
	}
	for _, j := range rightJournals() {
		calls = append(calls, ask("JournalPlan", impl.JournalPlan, j.list))
		calls = append(calls, replayCalls(noted(len(j.list), j.list...))...)
	}
	calls = append(calls, replayCalls(noted(2, impl.Update{At: 60}, impl.Update{At: 47}))...)
	wantPromise1(t, "plans", calls)
}

func TestP1NilIsEmptyOfJournals(t *testing.T) {
	d := restingPair()
	pairs := [][2]asked{
		{ask("MicrosDo", impl.MicrosDo, d, []impl.Micro(nil)), ask("MicrosDo", impl.MicrosDo, d, []impl.Micro{})},
		{ask("FlushPlan", impl.FlushPlan, []int(nil)), ask("FlushPlan", impl.FlushPlan, []int{})},
		{ask("JournalPlan", impl.JournalPlan, []impl.Update(nil)), ask("JournalPlan", impl.JournalPlan, []impl.Update{})},
	}
	for _, p := range pairs {
		if !allAlike(p[0].plainAnswers(), p[1].plainAnswers(), false) {
			t.Errorf("%s takes nil and empty lists as two things", p[0].name)
		}
	}
}
