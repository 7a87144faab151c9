package tests

import (
	"fmt"
	"slices"
	"testing"

	"loop.example/g00410/impl"
)

func TestP5StepsAreTheDevicesCalls(t *testing.T) {
	for _, d := range rightPairs() {
		for _, m := range rightSteps() {
			want, wantedCode := d.devices, impl.OK
			switch m.Kind {
			case impl.MiStore:
				want.Pm, wantedCode = impl.PmStore(want.Pm, m.At, m.Value)
			case impl.MiFlush:
				want.Pm, wantedCode = impl.PmFlush(want.Pm, m.At)
			case impl.MiFence:
				want.Pm, wantedCode = impl.PmFence(want.Pm)
			case impl.MiWrite:
				want.Blk, wantedCode = impl.BlkWrite(want.Blk, m.At, m.Value)
			case impl.MiBarrier:
				want.Blk, wantedCode = impl.BlkBarrier(want.Blk)
			}
			if got, code := impl.MicroDo(d.devices, m); code != wantedCode || !samePair(got, want) {
				t.Errorf("%s: step %v has the code %d, or other devices", d.name, m, code)
			}
		}
	}
}

func TestP5StepsOneByOne(t *testing.T) {
	d := &dice{state: 5}
	steps := rightSteps()
	for range 60 {
		want := restingPair()
		var list []impl.Micro
		for range 40 {
			m := steps[d.roll(len(steps))]
			list = append(list, m)
			x, code := impl.MicroDo(want, m)
			if code != impl.OK {
				t.Fatalf("step %v has the code %d", m, code)
			}
			want = x
			if got := do(t, restingPair(), list...); !samePair(got, want) {
				t.Fatalf("these steps at once are not the steps one by one: %v", list)
			}
		}
	}
}

// wantedFlushes are told line by line, unlike the program's, which are told place by place.
func wantedFlushes(places []int) []impl.Micro {
	var list []impl.Micro
	for i, at := range places {
		sameLine := func(x int) bool { return x/8 == at/8 }
		if slices.IndexFunc(places, sameLine) == i {
			list = append(list, flushStep(at))
		}
	}
	return append(list, fenceStep())
}

func TestP5Flushes(t *testing.T) {
	everyPlace := func(from, n, apart int) []int {
		var list []int
		for i := range n {
			list = append(list, (from+apart*i)%impl.PmSize)
		}
		return list
	}
	cases := []struct{ places, flushed []int }{
		{nil, nil},
		{[]int{0}, []int{0}},
		{[]int{335}, []int{335}},
		{[]int{5, 5, 5}, []int{5}},
		{[]int{7, 0, 3}, []int{7}},
		{[]int{7, 8}, []int{7, 8}},
		{[]int{8, 7}, []int{8, 7}},
		{[]int{15, 16, 8, 23}, []int{15, 16}},
		{[]int{17, 3, 16, 0, 300}, []int{17, 3, 300}},
		{[]int{328, 1, 335, 2, 329}, []int{328, 1}},
		{everyPlace(0, 42, 8), everyPlace(0, 42, 8)},
		{everyPlace(0, mostFlushes, 8), everyPlace(0, 42, 8)},
		{everyPlace(335, mostFlushes, 335), []int{335, 327, 319, 311, 303, 295, 287}},
	}
	for _, c := range cases {
		var want []impl.Micro
		for _, at := range c.flushed {
			want = append(want, flushStep(at))
		}
		want = append(want, fenceStep())
		if got := flushPlan(t, c.places...); !slices.Equal(got, want) {
			t.Errorf("FlushPlan(%v) = %v", c.places, got)
		}
	}
}

func TestP5FlushesMakeSure(t *testing.T) {
	d := &dice{state: 6}
	for range 200 {
		places := make([]int, d.roll(mostFlushes+1))
		x := restingPair()
		for i := range places {
			places[i] = d.roll(impl.PmSize)
			x = do(t, x, storeStep(places[i], i))
		}
		plan := flushPlan(t, places...)
		if !slices.Equal(plan, wantedFlushes(places)) {
			t.Fatalf("FlushPlan(%v) = %v", places, plan)
		}
		if after := do(t, x, plan...); len(after.Pm.Pending) != 0 {
			t.Fatalf("behind FlushPlan(%v) %d stores are not sure", places, len(after.Pm.Pending))
		}
	}
}

// wantedApplied and wantedNoted are the two halves of the document's plan, put together by hand.
func wantedApplied(list []impl.Update) []impl.Micro {
	var plan []impl.Micro
	var places []int
	for _, u := range list {
		plan, places = append(plan, storeStep(u.At, u.Value)), append(places, u.At)
	}
	plan = append(plan, wantedFlushes(places)...)
	return append(plan, storeStep(8, 0), flushStep(8), fenceStep())
}

func wantedNoted(list []impl.Update) []impl.Micro {
	var plan []impl.Micro
	var places []int
	for i, u := range list {
		plan = append(plan, storeStep(9+2*i, u.At), storeStep(10+2*i, u.Value))
		places = append(places, 9+2*i, 10+2*i)
	}
	plan = append(plan, wantedFlushes(places)...)
	return append(plan, storeStep(8, len(list)), flushStep(8), fenceStep())
}

func TestP5Plans(t *testing.T) {
	if plan := journalPlan(t, nil); len(plan) != 0 {
		t.Error("a journal of none takes", plan)
	}
	if plan := replayPlan(t, noted(0, updatesOf(3, 60)...)); len(plan) != 0 {
		t.Error("a replay of none takes", plan)
	}
	for _, j := range rightJournals() {
		noting, applying := wantedNoted(j.list), wantedApplied(j.list)
		if plan := journalPlan(t, j.list); !slices.Equal(plan, append(noting, applying...)) {
			t.Errorf("%s: JournalPlan is %v", j.name, plan)
		}
		if plan := replayPlan(t, noted(len(j.list), j.list...)); !slices.Equal(plan, applying) {
			t.Errorf("%s: ReplayPlan is %v", j.name, plan)
		}
	}
}

// The fences alone say what is sure: the flushes of sixteen updates' words are of five lines.
func TestP5PlanOfTheMost(t *testing.T) {
	plan := journalPlan(t, updatesOf(mostUpdates, 60))
	var flushed []int
	fences := 0
	for _, m := range plan {
		if m.Kind == impl.MiFlush && fences == 0 {
			flushed = append(flushed, m.At)
		}
		if m.Kind == impl.MiFence {
			fences++
		}
	}
	if !slices.Equal(flushed, []int{9, 16, 24, 32, 40}) || fences != 4 || len(plan) != 32+5+1+3+16+16+1+3 {
		t.Errorf("%d steps, %d fences, first of all these are flushed: %v", len(plan), fences, flushed)
	}
}

// applied is the memory with the updates, the last one of a place counting.
func applied(p impl.Pm, list []impl.Update) impl.Pm {
	words := slices.Clone(p.Words)
	for _, u := range list {
		words[u.At] = u.Value
	}
	return impl.Pm{Words: words}
}

// outsideJournal are the words that no journal has for itself.
func outsideJournal(p impl.Pm) []int {
	return append(slices.Clone(p.Words[:impl.JournalAt]), p.Words[impl.InodeAt:]...)
}

func sameOutside(a, b impl.Pm) bool {
	return slices.Equal(outsideJournal(a), outsideJournal(b))
}

func isSettled(p impl.Pm) bool {
	return len(p.Pending) == 0 && p.Words[impl.JournalAt] == 0
}

func TestP5WithoutACrash(t *testing.T) {
	for _, j := range rightJournals() {
		for _, before := range []impl.Devices{zeroPair(), restingPair(), {Pm: restingPair().Pm, Blk: numberedDevice(writesOf(mostWrites, 3, 4)...)}} {
			after := do(t, before, journalPlan(t, j.list)...)
			if !isSettled(after.Pm) || !sameOutside(after.Pm, applied(before.Pm, j.list)) {
				t.Errorf("%s: the updates are not applied, or not sure", j.name)
			}
			if !sameBlk(after.Blk, before.Blk) {
				t.Errorf("%s: the block device is another one", j.name)
			}
			for _, u := range j.list {
				wantLoad(t, after.Pm, u.At, applied(before.Pm, j.list).Words[u.At])
			}
		}
	}
}

func TestP5OneJournalBehindTheOther(t *testing.T) {
	d := restingPair()
	want := d.Pm
	for _, j := range rightJournals() {
		d = do(t, d, journalPlan(t, j.list)...)
		want = applied(want, j.list)
		if !isSettled(d.Pm) || !sameOutside(d.Pm, want) {
			t.Fatalf("%s: the updates of one journal behind another are not applied", j.name)
		}
	}
}

func replay(t *testing.T, p impl.Pm) impl.Pm {
	t.Helper()
	return do(t, impl.Devices{Pm: p, Blk: zeroDevice()}, replayPlan(t, p)...).Pm
}

// crashKeeps keep nothing, all, and some, in turns and by dice.
func crashKeeps(d *dice) [][]int {
	list := [][]int{nil, {0}, {400}, {1}, {2}, {0, 1}, {1, 0}, {0, 0, 1}, {1, 1, 0}, {400, 0, 0, 0, 0}, {0, 400, 1, 400}}
	for range 6 {
		list = append(list, rollKeeps(d))
	}
	return list
}

// isThere tells whether a crash behind so many steps may leave all of the updates, and whether it may leave none.
func isThere(plan []impl.Micro, steps int) (all, none bool) {
	counted := slices.IndexFunc(plan, func(m impl.Micro) bool { return m.Kind == impl.MiStore && m.At == impl.JournalAt })
	sure := counted + 3
	return steps > counted, steps < sure
}

func wantAllOrNone(t *testing.T, where string, before, after impl.Pm, list []impl.Update, mayAll, mayNone bool) {
	t.Helper()
	all := sameOutside(after, applied(before, list))
	none := sameOutside(after, before)
	if !isSettled(after) || !(all && mayAll || none && mayNone) {
		t.Errorf("%s: all is %v, none is %v, %d stores, the count is %d", where, all, none, len(after.Pending), after.Words[impl.JournalAt])
	}
}

func TestP5CrashBehindEachStep(t *testing.T) {
	d := &dice{state: 7}
	before := restingPair()
	for _, j := range rightJournals() {
		plan := journalPlan(t, j.list)
		for steps := range len(plan) + 1 {
			cut := do(t, before, plan[:steps]...)
			mayAll, mayNone := isThere(plan, steps)
			for _, keeps := range crashKeeps(d) {
				where := fmt.Sprintf("%s, %d steps, keeps %v", j.name, steps, keeps)
				wantAllOrNone(t, where, before.Pm, replay(t, crash(t, cut.Pm, keeps...)), j.list, mayAll, mayNone)
			}
		}
	}
}

// Whatever survives of the words that are not sure: all choices, of two updates and of one place twice.
func TestP5CrashWithAllThatMaySurvive(t *testing.T) {
	before := restingPair()
	for _, list := range [][]impl.Update{{{At: 60, Value: 7}, {At: 50, Value: 8}}, {{At: 70, Value: 1}, {At: 70, Value: 2}}} {
		plan := journalPlan(t, list)
		for steps := range len(plan) + 1 {
			cut := do(t, before, plan[:steps]...)
			mayAll, mayNone := isThere(plan, steps)
			unsure, _ := impl.PmUnsure(cut.Pm)
			for _, keeps := range allKeeps(len(unsure), 3) {
				where := fmt.Sprintf("%v, %d steps, keeps %v", list, steps, keeps)
				wantAllOrNone(t, where, before.Pm, replay(t, crash(t, cut.Pm, keeps...)), list, mayAll, mayNone)
			}
		}
	}
}

// allKeeps are all lists of n keeps below most.
func allKeeps(n, most int) [][]int {
	lists := [][]int{nil}
	for range n {
		var longer [][]int
		for _, l := range lists {
			for keep := range most {
				longer = append(longer, append(slices.Clone(l), keep))
			}
		}
		lists = longer
	}
	return lists
}

// What was noted is there behind each replay that is not cut short, however many were.
func TestP5CrashBehindEachStepOfTheReplay(t *testing.T) {
	d := &dice{state: 8}
	for _, j := range rightJournals() {
		start := noted(len(j.list), j.list...)
		plan := replayPlan(t, start)
		for steps := range len(plan) + 1 {
			cut := do(t, impl.Devices{Pm: start, Blk: zeroDevice()}, plan[:steps]...)
			for _, keeps := range crashKeeps(d) {
				where := fmt.Sprintf("%s, %d steps of the replay, keeps %v", j.name, steps, keeps)
				again := crash(t, cut.Pm, keeps...)
				wantAllOrNone(t, where, start, replay(t, again), j.list, true, false)
				third := crash(t, cutReplay(t, again, d), rollKeeps(d)...)
				wantAllOrNone(t, where+", and a third", start, replay(t, third), j.list, true, false)
			}
		}
	}
}

// cutReplay does the first steps of a replay, as many as the dice say.
func cutReplay(t *testing.T, p impl.Pm, d *dice) impl.Pm {
	t.Helper()
	plan := replayPlan(t, p)
	return do(t, impl.Devices{Pm: p, Blk: zeroDevice()}, plan[:d.roll(len(plan)+1)]...).Pm
}

func rollUpdates(d *dice) []impl.Update {
	list := make([]impl.Update, 1+d.roll(mostUpdates))
	near := 1 + d.roll(impl.PmSize-impl.InodeAt)
	for i := range list {
		list[i] = impl.Update{At: impl.InodeAt + d.roll(near), Value: d.roll(1 << 30)}
	}
	return list
}

// Crash upon crash, of journals and of their replays, with dice.
func TestP5CrashUponCrash(t *testing.T) {
	d := &dice{state: 9}
	before := restingPair()
	for range 1500 {
		list := rollUpdates(d)
		plan := journalPlan(t, list)
		steps := d.roll(len(plan) + 1)
		mayAll, mayNone := isThere(plan, steps)
		p := crash(t, do(t, before, plan[:steps]...).Pm, rollKeeps(d)...)
		for range d.roll(4) {
			p = crash(t, cutReplay(t, p, d), rollKeeps(d)...)
		}
		p = replay(t, p)
		wantAllOrNone(t, fmt.Sprint(list, " behind ", steps), before.Pm, p, list, mayAll, mayNone)
		before.Pm = p
	}
}
