package tests

import (
	"fmt"
	"slices"
	"testing"

	"loop.example/g00410/impl"
)

// The i-th of the keeps is of the i-th place of the memory that is not sure, and of the i-th sector.
func TestP12WhatSurvives(t *testing.T) {
	f := unsureBothWays()
	cases := []struct {
		keeps                         []int
		word0, word20, word330        int
		sector9, sector31, untouched5 int
	}{
		{nil, 7, 1020, 1330, 1009, 1031, 1005},
		{[]int{}, 7, 1020, 1330, 1009, 1031, 1005},
		{[]int{0}, 7, 1020, 1330, 1009, 1031, 1005},
		{[]int{1}, 4, 2, 1, 8, 7, 1005},
		{[]int{2}, 4, 6, 3, 8, 9, 1005},
		{[]int{400}, 4, 6, 5, 8, 9, 1005},
		{[]int{1, 1}, 4, 2, 1, 8, 7, 1005},
		{[]int{400, 400, 400}, 4, 6, 5, 8, 9, 1005},
		{[]int{1, 0}, 4, 1020, 1, 8, 1031, 1005},
		{[]int{0, 1}, 7, 2, 1330, 1009, 7, 1005},
		{[]int{0, 2}, 7, 6, 1330, 1009, 9, 1005},
		{[]int{0, 0, 2}, 7, 1020, 3, 1009, 1031, 1005},
		{[]int{0, 0, 0, 400}, 7, 1020, 1330, 1009, 1031, 1005},
		{[]int{1, 400, 3, 0}, 4, 6, 5, 8, 9, 1005},
	}
	for _, c := range cases {
		d := crashFs(t, "both", f, c.keeps)
		if len(d.Pm.Pending) > 0 || len(d.Blk.Pending) > 0 {
			t.Errorf("keeps %v: not all is sure behind a crash", c.keeps)
		}
		words, sectors := d.Pm.Words, d.Blk.Sectors
		if words[0] != c.word0 || words[20] != c.word20 || words[330] != c.word330 {
			t.Errorf("keeps %v: the words are %d, %d, %d", c.keeps, words[0], words[20], words[330])
		}
		if sectors[9] != c.sector9 || sectors[31] != c.sector31 || sectors[5] != c.untouched5 {
			t.Errorf("keeps %v: the sectors are %d, %d, %d", c.keeps, sectors[9], sectors[31], sectors[5])
		}
	}
}

func TestP12CrashIsOfBothDevices(t *testing.T) {
	d := &dice{state: 120}
	for _, x := range rightSystems() {
		for _, keeps := range crashKeeps(d) {
			got := crashFs(t, x.name, x.fs, keeps)
			pm, pmCode := impl.PmCrash(x.fs.Devices.Pm, keeps)
			blk, blkCode := impl.BlkCrash(x.fs.Devices.Blk, keeps)
			if pmCode != impl.OK || blkCode != impl.OK || !samePair(got, impl.Devices{Pm: pm, Blk: blk}) {
				t.Errorf("%s: with %v it is not PmCrash and BlkCrash", x.name, keeps)
			}
		}
	}
}

// Where all is sure a crash takes nothing but what is kept nowhere: heat, answers, and what was to be done.
func TestP12CrashAtRest(t *testing.T) {
	for _, x := range slices.Concat(restingSystems(), waitingSystems()) {
		for _, keeps := range [][]int{nil, {400}, {0, 1}} {
			if got := crashFs(t, x.name, x.fs, keeps); !samePair(got, x.fs.Devices) {
				t.Errorf("%s: with %v other devices are left", x.name, keeps)
			}
			want := impl.Fs{Devices: x.fs.Devices, Heat: evenHeat(1)}
			wantFs(t, x.name+", recovered", recovered(t, x.name, x.fs, keeps), want)
			for _, steps := range []int{0, 1, mostRecoverSteps} {
				wantFs(t, x.name+", crashed twice", crashTwice(t, x.name, x.fs, keeps, steps, keeps), want)
			}
		}
	}
}

func TestP12RecoveredIsAsNew(t *testing.T) {
	f := resting(smallImage())
	f.Heat, f.Answer, f.Fresh = risingHeat(), impl.Answer{Value: 5, Names: []string{"a"}}, true
	f.Todo = []impl.Micro{storeStep(0, 8), flushStep(0), fenceStep()}
	got := recovered(t, "rising heat", f, []int{400})
	if !slices.Equal(got.Heat, impl.NewHeat()) || len(got.Todo) > 0 || got.Fresh || !sameAnswer(got.Answer, impl.Answer{}) || !impl.FsOK(got) {
		t.Errorf("what is recovered has the heat %v, the steps %v and the answer %v", got.Heat, got.Todo, got.Answer)
	}
	if !samePair(got.Devices, f.Devices) {
		t.Error("what was to be done is done, or something else")
	}
	wantFs(t, "a new one", recovered(t, "a new one", impl.NewFs(), nil), impl.NewFs())
	taken, a := doOp(t, "recovered", got, readOp("/f", 0))
	if !sameAnswer(a, impl.Answer{Value: 1312}) || !slices.Equal(taken.Heat, heatWith(1, map[spot]int{{1, 0}: 9})) {
		t.Errorf("a recovered file system answers %v", a)
	}
}

func TestP12RecoverPlanIsTheReplay(t *testing.T) {
	if plan := recoverPlan(t, "no journal", housed(smallImage())); len(plan) > 0 {
		t.Errorf("without a journal these are the steps: %v", plan)
	}
	for _, j := range rightJournals() {
		for _, d := range []impl.Devices{zeroPair(), restingPair(), housed(smallImage())} {
			plan := recoverPlan(t, j.name, notedOn(d, j.list...))
			if !slices.Equal(plan, wantedApplied(j.list)) || !slices.Equal(plan, replayPlan(t, notedOn(d, j.list...).Pm)) {
				t.Errorf("%s: RecoverPlan is %v", j.name, plan)
			}
		}
	}
	plan := recoverPlan(t, "two", notedOn(zeroPair(), impl.Update{At: 60, Value: 7}, impl.Update{At: 50, Value: 8}))
	if want := []impl.Micro{storeStep(60, 7), storeStep(50, 8), flushStep(60), flushStep(50), fenceStep(), storeStep(8, 0), flushStep(8), fenceStep()}; !slices.Equal(plan, want) {
		t.Errorf("RecoverPlan of two updates is %v", plan)
	}
}

// What the journal has is there, be it what an operation noted or not; what stands behind its count is not.
func TestP12RecoverReplays(t *testing.T) {
	small := housed(smallImage())
	for _, list := range [][]impl.Update{
		{{At: 312, Value: 5}},
		{{At: 335, Value: impl.MaxWord - 1}, {At: 312, Value: 0}},
		{{At: 330, Value: 1}, {At: 330, Value: 2}},
		{inodeWord(1, 1, 4)},
		slices.Repeat([]impl.Update{{At: 320, Value: 9}}, mostUpdates),
	} {
		d := notedOn(small, list...)
		f := recoverFs(t, fmt.Sprint(list), d)
		for _, u := range list {
			wantLoad(t, f.Devices.Pm, u.At, applied(small.Pm, list).Words[u.At])
		}
		if !isSettled(f.Devices.Pm) {
			t.Errorf("%v: the journal is not empty", list)
		}
		d.Pm.Words[8]--
		fewer := recoverFs(t, fmt.Sprint("but one of ", list), d)
		if !sameOutside(fewer.Devices.Pm, applied(small.Pm, list[:len(list)-1])) {
			t.Errorf("%v: with one less in the journal other words are there", list)
		}
	}
}

// A journal may mend an image that is not right yet: it is asked for behind the replay alone.
func TestP12RecoverMends(t *testing.T) {
	for _, c := range []struct{ at, wrong int }{{62, 3}, {48, 0}, {241, 27}, {48 + 12*4 + 3, pageEntry(9)}, {311, 5}} {
		right := housed(smallImage())
		d := notedOn(housedWith(c.at, c.wrong), impl.Update{At: c.at, Value: right.Pm.Words[c.at]})
		f := recoverFs(t, fmt.Sprint(c), d)
		wantFiles(t, fmt.Sprint(c), f.Devices, filesOf(t, "small", right))
		wantCode(t, fmt.Sprint(c), recoverCall(housedWith(c.at, c.wrong)), impl.ErrForm)
	}
}

// The theorem of crashes: behind each step, whatever survives, all files are as ahead of what was in the midst, or as behind it; which of these hangs on one store alone.
func TestP12CrashBehindEachStep(t *testing.T) {
	d := &dice{state: 121}
	for _, x := range begunAnywhere(t) {
		f := x.fs
		for n := 0; ; n++ {
			for _, keeps := range keepsFor(d, f) {
				where := fmt.Sprint(x.name, ", ", n, " steps, keeps ", keeps)
				r := recovered(t, where, f, keeps)
				wantFiles(t, where, r.Devices, x.after(n, keeps))
			}
			where := fmt.Sprint(x.name, ", ", n, " steps")
			wantSeen(t, where+", nothing kept", recovered(t, where, f, nil).Devices, x.after(n, nil))
			wantSeen(t, where+", all kept", recovered(t, where, f, []int{400}).Devices, x.after(n, []int{400}))
			if len(f.Todo) == 0 {
				break
			}
			f = stepFs(t, where, f)
		}
		wantFiles(t, x.name+", behind all steps", recovered(t, x.name, f, nil).Devices, x.behind)
	}
}

// Whatever survives of the places that are not sure: all choices of them.
func TestP12CrashWithAllThatMaySurvive(t *testing.T) {
	small := resting(smallImage())
	list := []midst{
		beginOp(t, "small", small, writeOp("/f", 3, 5)),
		beginOp(t, "small", small, cutOp("/f", 1)),
		beginOp(t, "small", small, renameOp("/f", "/new")),
		beginOp(t, "small", small, makeOp("/new")),
		beginOp(t, "a sector", resting(packed(0, 1)), writeOp("/f", 0, 5)),
		beginMove(t, "small", small, false),
		beginMove(t, "small", small, true),
	}
	for _, x := range list {
		f := x.fs
		for n := 0; ; n++ {
			words, _ := impl.PmUnsure(f.Devices.Pm)
			sectors, _ := impl.BlkUnsure(f.Devices.Blk)
			for _, keeps := range allKeeps(max(len(words), len(sectors)), 2) {
				where := fmt.Sprint(x.name, ", ", n, " steps, keeps ", keeps)
				wantFiles(t, where, recovered(t, where, f, keeps).Devices, x.after(n, keeps))
			}
			if len(f.Todo) == 0 {
				break
			}
			f = stepFs(t, x.name, f)
		}
	}
}

// wantTwice crashes the recovery behind each of its own steps, and behind more than it has: each time it comes to what the first one would have come to.
func wantTwice(t *testing.T, where string, f impl.Fs, keeps []int, agains ...[]int) int {
	t.Helper()
	first := crashFs(t, where, f, keeps)
	want := recoverFs(t, where, first)
	plan := recoverPlan(t, where, first)
	for steps := range len(plan) + 2 {
		for _, again := range agains {
			got := crashTwice(t, where, f, keeps, steps, again)
			if !sameFs(got, want) {
				t.Fatalf("%s: crashed behind %d steps with %v it comes to something else", where, steps, again)
			}
		}
	}
	wantFs(t, where+", 200 steps", crashTwice(t, where, f, keeps, mostRecoverSteps, []int{1}), want)
	return len(plan)
}

func TestP12RecoveriesThatCrash(t *testing.T) {
	d := &dice{state: 122}
	replays := 0
	for _, x := range begunAnywhere(t) {
		f := x.fs
		for n := 0; ; n++ {
			where := fmt.Sprint(x.name, ", ", n, " steps")
			for _, keeps := range [][]int{nil, {400}} {
				if wantTwice(t, where, f, keeps, nil, []int{400}, []int{0, 1}, rollKeeps(d)) > 0 {
					replays++
				}
			}
			if len(f.Todo) == 0 {
				break
			}
			f = stepFs(t, where, f)
		}
	}
	if replays < 300 {
		t.Errorf("only %d recoveries had steps", replays)
	}
}

// One store alone survives of a recovery that crashes: none of them, each of them, all but each of them.
func TestP12RecoveriesThatCrashWithEachStore(t *testing.T) {
	d := &dice{state: 123}
	x := beginOp(t, "small", resting(smallImage()), removeOp("/zzzzzz"))
	f := steppedByHand(t, x.fs, turn(x.fs.Todo)+3)
	first := crashFs(t, x.name, f, nil)
	plan := recoverPlan(t, x.name, first)
	for steps := range len(plan) + 1 {
		cut := impl.Fs{Devices: do(t, first, plan[:steps]...)}
		for _, again := range keepsFor(d, cut) {
			got := crashTwice(t, x.name, f, nil, steps, again)
			wantFiles(t, fmt.Sprint(x.name, ", ", steps, " steps, again ", again), got.Devices, x.behind)
		}
	}
	if len(plan) < 20 {
		t.Errorf("the plan has only %d steps", len(plan))
	}
}

// However often a recovery crashes, the one that does not comes to the same.
func TestP12RecoveriesThatCrashAgainAndAgain(t *testing.T) {
	dice := &dice{state: 124}
	for _, o := range []impl.Op{makeOp("/new"), removeOp("/zzzzzz"), writeOp("/f", 5, 5), linkOp("/f", "/new"), cutOp("/zzzzzz", 1)} {
		x := beginOp(t, "small", resting(smallImage()), o)
		for range 40 {
			n := dice.roll(len(x.fs.Todo) + 1)
			keeps := rollKeeps(dice)
			d := crashFs(t, x.name, steppedByHand(t, x.fs, n), keeps)
			for range 1 + dice.roll(6) {
				plan := recoverPlan(t, x.name, d)
				cut := do(t, d, plan[:dice.roll(len(plan)+1)]...)
				d = crashedByHand(cut, rollKeeps(dice))
			}
			where := fmt.Sprint(x.name, ", ", n, " steps, keeps ", keeps)
			wantFiles(t, where, recoverFs(t, where, d).Devices, x.after(n, keeps))
		}
	}
}

func TestP12StepsOfCrashTwice(t *testing.T) {
	x := beginOp(t, "small", resting(smallImage()), makeOp("/new"))
	f := steppedByHand(t, x.fs, turn(x.fs.Todo)+3)
	plan := recoverPlan(t, x.name, crashFs(t, x.name, f, nil))
	if len(plan) < 8 {
		t.Fatalf("the plan has only %d steps", len(plan))
	}
	want := recovered(t, x.name, f, nil)
	for _, steps := range []int{0, 1, len(plan) - 1, len(plan), len(plan) + 1, mostRecoverSteps - 1, mostRecoverSteps} {
		for _, again := range [][]int{nil, {400}, {0, 1}, {1, 0, 0}} {
			wantFs(t, fmt.Sprint(steps, " steps, again ", again), crashTwice(t, x.name, f, nil, steps, again), want)
			wantFiles(t, fmt.Sprint(steps, " steps, again ", again), want.Devices, x.behind)
		}
	}
	for _, steps := range []int{-1, mostRecoverSteps + 1} {
		wantCode(t, fmt.Sprint(steps, " steps"), crashTwiceCall(f, nil, steps, nil), impl.ErrRange)
	}
}

// The two crashes of a call are told apart: what the first one keeps is not what the second one keeps.
func TestP12FirstAndSecondCrash(t *testing.T) {
	x := beginOp(t, "small", resting(smallImage()), writeOp("/f", 0, 5))
	f := steppedByHand(t, x.fs, turn(x.fs.Todo)+1)
	for _, again := range [][]int{nil, {0}, {1}, {400}} {
		for steps := range 8 {
			where := fmt.Sprint(steps, " steps, again ", again)
			wantFiles(t, where+", lost", crashTwice(t, where, f, []int{0}, steps, again).Devices, x.ahead)
			wantFiles(t, where+", kept", crashTwice(t, where, f, []int{1}, steps, again).Devices, x.behind)
		}
	}
}

// What was done stays done, whatever crashes behind it, and whatever is in the midst then.
func TestP12WhatWasDoneIsNotLost(t *testing.T) {
	d := &dice{state: 125}
	f := systemWith(t, makeOp("/a"), writeOp("/a", 0, 5), writeOp("/a", 2, 6), mkdirOp("/d"), linkOp("/a", "/d/b"), makeOp("/d/c"), writeOp("/d/c", 0, 7))
	f = finishFs(t, "down", startMove(t, "down", f, false))
	wantDone := func(where string, f impl.Fs, c ...int) {
		t.Helper()
		wantPages(t, where, f.Devices, "/a", 5, 0, 6)
		wantPages(t, where, f.Devices, "/d/b", 5, 0, 6)
		wantPages(t, where, f.Devices, "/d/c", c...)
		wantPaths(t, where, imageByHand(t, where, f.Devices), "/a", "/d", "/d/b", "/d/c")
	}
	for _, keeps := range crashKeeps(d) {
		wantDone("all is done", recovered(t, "all is done", f, keeps), 7)
	}
	x := startOp(t, "a write", f, writeOp("/d/c", 0, 8))
	at := turn(x.Todo)
	for n := 0; ; n++ {
		for _, keeps := range crashKeeps(d) {
			where := fmt.Sprint("a write, ", n, " steps, keeps ", keeps)
			c := 7
			if n >= at+3 || n > at && keepByHand(keeps, 0) > 0 {
				c = 8
			}
			wantDone(where, recovered(t, where, x, keeps), c)
		}
		if len(x.Todo) == 0 {
			break
		}
		x = stepFs(t, "a write", x)
	}
	taken, _ := takeAnswer(t, "a write", x)
	wantDone("taken", recovered(t, "taken", taken, nil), 8)
}

// Each operation that was answered is there behind a crash; one behind the other, each of them crashed behind.
func TestP12DoneOneBehindTheOtherAndCrashed(t *testing.T) {
	f := impl.NewFs()
	for _, o := range []impl.Op{makeOp("/a"), writeOp("/a", 7, 5), mkdirOp("/d"), linkOp("/a", "/d/b"), removeOp("/a"), renameOp("/d", "/e"), cutOp("/e/b", 8), writeOp("/e/b", 0, 6), cutOp("/e/b", 1), removeOp("/e/b"), removeOp("/e")} {
		where := fmt.Sprintf("%+v", o)
		after, a := doOp(t, where, f, o)
		if a.Code != impl.OK {
			t.Fatalf("%s has the code %d", where, a.Code)
		}
		r := recovered(t, where, after, []int{400, 0, 1})
		want := after
		want.Heat = evenHeat(1)
		wantFs(t, where+", crashed behind", r, want)
		f = r
	}
	wantFiles(t, "all removed", f.Devices, filesOf(t, "a new one", impl.NewDevices()))
}

// rollMidst begins an operation, or a move if there is something to be moved.
func rollMidst(t *testing.T, d *dice, where string, f impl.Fs) midst {
	t.Helper()
	if d.roll(4) == 0 {
		up := d.roll(2) == 0
		if _, code := impl.StartMove(f, up); code == impl.OK {
			return beginMove(t, where, f, up)
		}
	}
	return beginOp(t, where, f, rollOpOf(d, f))
}

// Crash upon crash among operations and moves, of which some are finished.
func TestP12RolledCrashes(t *testing.T) {
	d := &dice{state: 126}
	lost := 0
	for run := range 20 {
		f := impl.NewFs()
		if run%2 > 0 {
			f = resting(packed(d.roll(3), d.roll(3)))
		}
		for round := range 50 {
			where := fmt.Sprint("run ", run, ", round ", round)
			x := rollMidst(t, d, where, f)
			n := d.roll(len(x.fs.Todo) + 1)
			cut := steppedByHand(t, x.fs, n)
			keeps, want := rollKeeps(d), x.behind
			switch d.roll(3) {
			case 0:
				f, _, _ = takenByHand(finishFs(t, where, cut))
			case 1:
				f, want = recovered(t, where, cut, keeps), x.after(n, keeps)
			default:
				f, want = crashTwice(t, where, cut, keeps, d.roll(30), rollKeeps(d)), x.after(n, keeps)
			}
			wantFiles(t, x.name, f.Devices, want)
			if !sameImage(want.image, x.behind.image) {
				lost++
			}
		}
		wantSeen(t, fmt.Sprint("run ", run), f.Devices, filesOf(t, "behind", f.Devices))
	}
	if lost < 100 || lost > 400 {
		t.Errorf("of 1000 that were begun %d were lost", lost)
	}
}
