package tests

import (
	"fmt"
	"slices"
	"testing"

	"loop.example/g00410/impl"
)

func TestP11NewSystem(t *testing.T) {
	f := impl.NewFs()
	if !samePair(f.Devices, impl.NewDevices()) || !slices.Equal(f.Heat, evenHeat(1)) || len(f.Todo) > 0 || !sameAnswer(f.Answer, impl.Answer{}) || f.Fresh {
		t.Errorf("NewFs is %v", f)
	}
	if !impl.FsOK(f) {
		t.Error("NewFs is not right")
	}
}

// hasPaths: what is told a second time is told of paths that are some.
func hasPaths(o impl.Op) bool {
	return impl.PathOK(o.Path) && (o.To == "" || impl.PathOK(o.To)) && (o.To != "" || o.Kind != impl.OpLink && o.Kind != impl.OpRename)
}

func TestP11StartedOperations(t *testing.T) {
	hosts := []namedFs{{"the tree", resting(treeImage())}, {"full", resting(fullImage())}, {"a new one", impl.NewFs()}}
	for _, h := range roomyHosts() {
		hosts = append(hosts, namedFs{h.name, impl.Fs{Devices: h.devices, Heat: risingHeat()}})
	}
	for _, x := range hosts {
		for _, o := range append(smallOps(), opsOfEachKind()...) {
			if hasPaths(o) {
				startOp(t, x.name, x.fs, o)
			}
		}
	}
}

// The steps and the answer are PlanOp's.
func TestP11StartedSteps(t *testing.T) {
	small := resting(smallImage())
	for _, o := range append(smallOps(), opsOfEachKind()...) {
		f, code := impl.StartOp(small, o)
		steps, a, _ := impl.PlanOp(small.Devices, o)
		if code != impl.OK || !slices.Equal(f.Todo, steps) || !sameAnswer(f.Answer, a) || !f.Fresh || !samePair(f.Devices, small.Devices) {
			t.Errorf("StartOp of %+v has the steps %v, the answer %v, code %d, not %v, %v", o, f.Todo, f.Answer, code, steps, a)
		}
	}
}

// What only looks, and what has a code, takes no steps: its answer waits at once.
func TestP11AnswersAtOnce(t *testing.T) {
	small := resting(smallImage())
	cases := []struct {
		op   impl.Op
		want impl.Answer
	}{
		{readOp("/f", 0), impl.Answer{Value: 1312}},
		{readOp("/f", 1), impl.Answer{}},
		{readOp("/d/g", 2), impl.Answer{Value: 1000}},
		{readOp("/f", 3), impl.Answer{Code: impl.ErrRange}},
		{statOp("/f"), impl.Answer{Value: 132}},
		{statOp("/d"), impl.Answer{Value: 201}},
		{statOp("/nobody"), impl.Answer{Code: impl.ErrNone}},
		{listOp("/"), impl.Answer{Names: []string{"d", "f", "zzzzzz"}}},
		{listOp("/d/d/aaaaaa"), impl.Answer{}},
		{listOp("/f"), impl.Answer{Code: impl.ErrNoDir}},
		{makeOp("/f"), impl.Answer{Code: impl.ErrTwice}},
		{removeOp("/"), impl.Answer{Code: impl.ErrRoot}},
		{removeOp("/d"), impl.Answer{Code: impl.ErrNotEmpty}},
		{renameOp("/d", "/d/x"), impl.Answer{Code: impl.ErrLoop}},
		{writeOp("/d", 0, 5), impl.Answer{Code: impl.ErrDir}},
		{writeOp("/f", 8, 5), impl.Answer{Code: impl.ErrRange}},
		{cutOp("/f", 9), impl.Answer{Code: impl.ErrRange}},
		{statOp("x"), impl.Answer{Code: impl.ErrName}},
	}
	for _, c := range cases {
		f, code := impl.StartOp(small, c.op)
		if code != impl.OK || len(f.Todo) > 0 || !f.Fresh || !sameAnswer(f.Answer, c.want) {
			t.Errorf("StartOp of %+v has the steps %v, the answer %v, code %d, not %v", c.op, f.Todo, f.Answer, code, c.want)
		}
		wantStays(t, "at once", stepCall(f), impl.ErrIdle)
		if _, a := takeAnswer(t, "at once", finishFs(t, "at once", f)); !sameAnswer(a, c.want) {
			t.Errorf("the answer of %+v is %v, not %v", c.op, a, c.want)
		}
	}
	full, _ := impl.StartOp(resting(fullImage()), writeOp("/a", 0, 5))
	if !sameAnswer(full.Answer, impl.Answer{Code: impl.ErrFull}) || len(full.Todo) > 0 || !slices.Equal(full.Heat, evenHeat(1)) {
		t.Errorf("without room a write has the answer %v", full.Answer)
	}
}

func wantHeatBehind(t *testing.T, f impl.Fs, o impl.Op, want []int) {
	t.Helper()
	started, _ := impl.StartOp(f, o)
	done, _, _ := impl.DoOp(f, o)
	if !slices.Equal(started.Heat, want) || !slices.Equal(done.Heat, want) {
		t.Errorf("%+v: the heat is %v and %v, not %v", o, started.Heat, done.Heat, want)
	}
}

// A read or a write that is OK touches its page, from its beginning on, by whatever name, be the page somewhere or not.
func TestP11WhatTouches(t *testing.T) {
	f := resting(smallImage())
	f.Heat = risingHeat()
	touched := map[impl.Op]spot{
		readOp("/f", 0): {1, 0}, readOp("/f", 1): {1, 1}, readOp("/f", 2): {1, 2}, readOp("/d/g", 2): {1, 2}, readOp("/zzzzzz", 7): {15, 7}, readOp("/zzzzzz", 6): {15, 6},
		writeOp("/f", 0, 5): {1, 0}, writeOp("/d/g", 0, 0): {1, 0}, writeOp("/f", 1, 5): {1, 1}, writeOp("/f", 3, 5): {1, 3}, writeOp("/f", 7, 5): {1, 7}, writeOp("/d/d/e", 4, 5): {4, 4}, writeOp("/zzzzzz", 0, impl.MaxWord-1): {15, 0},
	}
	for o, s := range touched {
		wantHeatBehind(t, f, o, touchedByHand(f.Heat, s))
	}
	for _, o := range append(smallOps(), opsOfEachKind()...) {
		_, a, _ := impl.PlanOp(f.Devices, o)
		if o.Kind != impl.OpRead && o.Kind != impl.OpWrite || a.Code != impl.OK {
			wantHeatBehind(t, f, o, f.Heat)
		}
	}
	full := resting(fullImage())
	wantHeatBehind(t, full, writeOp("/a", 0, 5), evenHeat(1))
	wantHeatBehind(t, full, readOp("/a", 0), touchedByHand(evenHeat(1), spot{1, 0}))
}

func TestP11TouchedUntilItIsHottest(t *testing.T) {
	f := systemWith(t, makeOp("/a"))
	for n, want := range []int{9, 17, 25, 33, 41, 49, 57, 64, 64} {
		o := writeOp("/a", 2, n)
		if n%2 > 0 {
			o = readOp("/a", 2)
		}
		f, _ = doOp(t, "touched", f, o)
		if !slices.Equal(f.Heat, heatWith(1, map[spot]int{{1, 2}: want})) {
			t.Errorf("behind %d touches the heat is %v", n+1, f.Heat)
		}
	}
}

// begun are file systems in which something has just begun: operations of all kinds, and both moves.
func begun(t *testing.T) []namedFs {
	t.Helper()
	var list []namedFs
	small := resting(smallImage())
	for _, o := range opsOfEachKind() {
		list = append(list, namedFs{fmt.Sprintf("%+v", o), startOp(t, "begun", small, o)})
	}
	little := resting(packed(0, 1))
	list = append(list, namedFs{"a write on a sector", startOp(t, "begun", little, writeOp("/f", 4, 5))})
	for _, up := range []bool{false, true} {
		list = append(list, namedFs{fmt.Sprint("a move, up: ", up), startMove(t, "begun", small, up)})
	}
	return list
}

// Wherever it is finished, it is what all steps one by one come to; each of them is the first of those that are left, and changes nothing but the devices.
func TestP11OneByOneIsAllAtOnce(t *testing.T) {
	for _, x := range begun(t) {
		want, code := impl.FinishFs(x.fs)
		if code != impl.OK || len(want.Todo) > 0 || !impl.FsOK(want) {
			t.Fatalf("%s: FinishFs has the code %d, or leaves something", x.name, code)
		}
		if !samePair(want.Devices, do(t, x.fs.Devices, x.fs.Todo...)) || !isSettled(want.Devices.Pm) || len(want.Devices.Blk.Pending) > 0 {
			t.Fatalf("%s: FinishFs leaves other devices, or not all is sure", x.name)
		}
		f, todo := x.fs, x.fs.Todo
		for n := range todo {
			if !slices.Equal(f.Todo, todo[n:]) || !sameFs(f, steppedByHand(t, x.fs, n)) {
				t.Fatalf("%s: behind %d steps these are left: %v", x.name, n, f.Todo)
			}
			wantFs(t, fmt.Sprint(x.name, ", finished behind ", n), finishFs(t, x.name, f), want)
			f = stepFs(t, x.name, f)
			if !slices.Equal(f.Heat, x.fs.Heat) || !sameAnswer(f.Answer, x.fs.Answer) || f.Fresh != x.fs.Fresh {
				t.Fatalf("%s: step %d changes the heat or the answer", x.name, n)
			}
		}
		wantFs(t, x.name+", one by one", f, want)
		wantStays(t, x.name+", once more", stepCall(f), impl.ErrIdle)
		wantFs(t, x.name+", finished twice", finishFs(t, x.name, f), want)
	}
}

// With some to be done nothing else begins, and no answer is taken.
func TestP11NothingElseBegins(t *testing.T) {
	for _, x := range begun(t) {
		f := x.fs
		for n := range f.Todo {
			where := fmt.Sprint(x.name, ", behind ", n)
			for _, o := range []impl.Op{listOp("/"), readOp("/f", 0), writeOp("/f", 0, 9), makeOp("/new"), statOp("/nobody"), removeOp("/zzzzzz")} {
				wantStays(t, where, startOpCall(f, o), impl.ErrBusy)
				wantStays(t, where, doOpCall(f, o), impl.ErrBusy)
			}
			for _, up := range []bool{false, true} {
				wantStays(t, where, startMoveCall(f, up), impl.ErrBusy)
			}
			wantStays(t, where, takeCall(f), impl.ErrBusy)
			f = stepFs(t, where, f)
		}
		wantNothingBeginsBehind(t, x.name+", behind all", f)
	}
}

// wantNothingBeginsBehind the last step either, if there is an answer, until it is taken.
func wantNothingBeginsBehind(t *testing.T, where string, f impl.Fs) {
	t.Helper()
	if !f.Fresh {
		wantStays(t, where, takeCall(f), impl.ErrNone)
		startOp(t, where, f, listOp("/"))
		return
	}
	for _, c := range beginCalls(f, readOp("/f", 0)) {
		wantStays(t, where, c, impl.ErrBusy)
	}
	taken, _ := takeAnswer(t, where, f)
	wantStays(t, where+", twice", takeCall(taken), impl.ErrNone)
	startOp(t, where+", taken", taken, listOp("/"))
	doOp(t, where+", taken", taken, statOp("/"))
	for _, up := range []bool{false, true} {
		wantMoving(t, where+", taken", taken, up)
	}
}

func TestP11TakenAnswers(t *testing.T) {
	f := startOp(t, "a write", systemWith(t, makeOp("/a")), writeOp("/a", 0, 9))
	for range f.Todo {
		wantStays(t, "a write", takeCall(f), impl.ErrBusy)
		f = stepFs(t, "a write", f)
	}
	f, a := takeAnswer(t, "a write", f)
	if !sameAnswer(a, impl.Answer{}) {
		t.Errorf("the answer of a write is %v", a)
	}
	wantStays(t, "taken", takeCall(f), impl.ErrNone)
	f, a = takeAnswer(t, "a read", startOp(t, "a read", f, readOp("/a", 0)))
	if !sameAnswer(a, impl.Answer{Value: 9}) {
		t.Errorf("the answer of a read is %v", a)
	}
	f, a = takeAnswer(t, "a list", startOp(t, "a list", f, listOp("/")))
	if !sameAnswer(a, impl.Answer{Names: []string{"a"}}) {
		t.Errorf("the answer of a list is %v", a)
	}
	f, a = takeAnswer(t, "a code", startOp(t, "a code", f, makeOp("/a")))
	if !sameAnswer(a, impl.Answer{Code: impl.ErrTwice}) {
		t.Errorf("the answer of what has a code is %v", a)
	}
	f = startMove(t, "a move", f, false)
	wantStays(t, "a move", takeCall(f), impl.ErrBusy)
	f = finishFs(t, "a move", f)
	wantStays(t, "a move", takeCall(f), impl.ErrNone)
}

// An answer that waits is taken as it is, however it came there.
func TestP11WaitingAnswers(t *testing.T) {
	for _, x := range waitingSystems() {
		f, _ := takeAnswer(t, x.name, x.fs)
		if f.Fresh || !sameAnswer(f.Answer, impl.Answer{}) {
			t.Errorf("%s: it waits on", x.name)
		}
	}
}

func TestP11StepsOfMoves(t *testing.T) {
	f := resting(smallImage())
	f.Heat = heatWith(5, map[spot]int{{15, 3}: 4, {15, 4}: 6})
	down := startMove(t, "down", f, false)
	if want := []impl.Micro{writeStep(1, 1313), barrierStep(), storeStep(234, 6), flushStep(234), fenceStep()}; !slices.Equal(down.Todo, want) {
		t.Errorf("the steps down are %v", down.Todo)
	}
	up := startMove(t, "up", f, true)
	if want := []impl.Micro{storeStep(315, 1002), flushStep(315), fenceStep(), storeStep(235, 13), flushStep(235), fenceStep()}; !slices.Equal(up.Todo, want) {
		t.Errorf("the steps up are %v", up.Todo)
	}
	for _, x := range []impl.Fs{down, up} {
		if x.Fresh || !sameAnswer(x.Answer, impl.Answer{}) || !slices.Equal(x.Heat, f.Heat) {
			t.Errorf("a move has an answer, or another heat: %v, %v", x.Answer, x.Heat)
		}
		x = finishFs(t, "a move", x)
		if x.Fresh || !sameAnswer(x.Answer, impl.Answer{}) || !slices.Equal(x.Heat, f.Heat) {
			t.Errorf("a move leaves an answer, or another heat: %v, %v", x.Answer, x.Heat)
		}
		wantPages(t, "moved", x.Devices, "/zzzzzz", 1335, 1031, 0, 1313, 1002, 0, 0, 1314)
	}
}

func TestP11MovesOfAllSystems(t *testing.T) {
	for _, x := range append(restingSystems(), namedFs{"full", resting(fullImage())}) {
		for _, up := range []bool{false, true} {
			f, _ := wantMoving(t, x.name, x.fs, up)
			finishFs(t, x.name, f)
		}
	}
}

// Moved until there is no page of the tier, or no room in the other one; the files are as they were.
func TestP11MovedUntilThereIsNoMore(t *testing.T) {
	hosts := []struct {
		name     string
		image    impl.Image
		down, up int
	}{{"small", smallImage(), impl.ErrNone, impl.ErrNone}, {"sectors are free", packed(0, 29), impl.ErrNone, impl.ErrFull}, {"two sectors are free", packed(0, 2), impl.ErrFull, impl.ErrFull}}
	for _, h := range hosts {
		f := resting(h.image)
		f.Heat = risingHeat()
		paths, contents := pathsByHand(h.image), contentsByHand(h.image, f.Devices)
		for _, way := range []struct {
			up   bool
			last int
		}{{false, h.down}, {true, h.up}} {
			moves := 0
			for {
				x, code := wantMoving(t, h.name, f, way.up)
				if code != impl.OK {
					if code != way.last || moves < 2 {
						t.Errorf("%s: behind %d moves StartMove has the code %d", h.name, moves, code)
					}
					break
				}
				f = finishFs(t, h.name, x)
				moves++
			}
			wantContents(t, h.name, f.Devices, paths, contents)
		}
	}
}

// DoOp is StartOp, FinishFs and TakeAnswer, and the files are as they are behind the operation.
func TestP11DoneOperations(t *testing.T) {
	hosts := []namedFs{{"small", resting(smallImage())}, {"a new one", impl.NewFs()}, {"full", resting(fullImage())}, {"on a sector", resting(packed(0, 1))}}
	for _, x := range hosts {
		for _, o := range append(opsOfEachKind(), readOp("/a", 0), writeOp("/a", 0, 6), removeOp("/a")) {
			f, a := doOp(t, x.name, x.fs, o)
			after, wanted := wantDone(t, x.name, x.fs.Devices, o)
			if !samePair(f.Devices, after) || !sameAnswer(a, wanted) {
				t.Errorf("%s: %+v is done otherwise, or answers %v, not %v", x.name, o, a, wanted)
			}
		}
	}
}

func TestP11DoneOneBehindTheOther(t *testing.T) {
	f := systemWith(t, makeOp("/a"), writeOp("/a", 2, 77), mkdirOp("/d"), linkOp("/a", "/d/b"), removeOp("/a"), writeOp("/d/b", 0, 5), renameOp("/d", "/e"))
	wantPages(t, "written", f.Devices, "/e/b", 5, 0, 77)
	for _, c := range []struct {
		op   impl.Op
		want impl.Answer
	}{
		{statOp("/e/b"), impl.Answer{Value: 131}}, {listOp("/"), impl.Answer{Names: []string{"e"}}}, {readOp("/e/b", 2), impl.Answer{Value: 77}}, {readOp("/a", 0), impl.Answer{Code: impl.ErrNone}},
		{cutOp("/e/b", 1), impl.Answer{}}, {readOp("/e/b", 2), impl.Answer{Code: impl.ErrRange}}, {removeOp("/e"), impl.Answer{Code: impl.ErrNotEmpty}}, {removeOp("/e/b"), impl.Answer{}}, {removeOp("/e"), impl.Answer{}}, {listOp("/"), impl.Answer{}},
	} {
		x, a := doOp(t, "one behind the other", f, c.op)
		if !sameAnswer(a, c.want) {
			t.Errorf("%+v has the answer %v, not %v", c.op, a, c.want)
		}
		f = x
	}
	if want := heatWith(1, map[spot]int{{1, 0}: 9, {1, 2}: 17}); !slices.Equal(f.Heat, want) {
		t.Errorf("the heat is %v", f.Heat)
	}
}

func TestP11DecayChangesHeatAlone(t *testing.T) {
	for _, x := range rightSystems() {
		want := cloneFs(x.fs)
		for at := range want.Heat {
			want.Heat[at] >>= 1
		}
		got, code := impl.DecayFs(x.fs)
		if code != impl.OK {
			t.Errorf("%s: DecayFs has the code %d", x.name, code)
		}
		wantFs(t, x.name+": DecayFs", got, want)
	}
	for _, x := range begun(t) {
		got, code := impl.DecayFs(x.fs)
		want := x.fs
		want.Heat = decay(t, x.fs.Heat)
		if code != impl.OK || len(got.Todo) != len(x.fs.Todo) {
			t.Errorf("%s: DecayFs has the code %d", x.name, code)
		}
		wantFs(t, x.name+": DecayFs", got, want)
		wantFs(t, x.name+": DecayFs, finished", finishFs(t, x.name, got), finishFs(t, x.name, want))
	}
}

// Steps that no plan made are done too, all of them, wherever they lead.
func TestP11StepsOfAnyKind(t *testing.T) {
	for _, x := range busySystems() {
		f := x.fs
		for n := range x.fs.Todo {
			got, code := impl.StepFs(f)
			if code != impl.OK || !sameFs(got, steppedByHand(t, x.fs, n+1)) {
				t.Fatalf("%s: step %d has the code %d, or comes to another file system", x.name, n, code)
			}
			f = got
			if len(f.Todo) > 0 && !impl.FsOK(f) {
				t.Fatalf("%s: behind step %d it is not right", x.name, n)
			}
		}
		all, code := impl.FinishFs(x.fs)
		if code != impl.OK || !sameFs(all, f) {
			t.Fatalf("%s: FinishFs has the code %d, or comes to another file system", x.name, code)
		}
	}
}

// What steps lead to need not be right; the next call tells.
func TestP11StepsThatLeadToWhatIsWrong(t *testing.T) {
	f := resting(smallImage())
	for _, todo := range [][]impl.Micro{{storeStep(20, 5)}, {writeStep(0, 5)}, {storeStep(20, 5), fenceStep()}, {storeStep(0, 8), flushStep(0), fenceStep()}, {storeStep(8, 1), flushStep(8), fenceStep()}} {
		f.Todo = todo
		all, code := impl.FinishFs(f)
		if code != impl.OK || impl.FsOK(all) || !samePair(all.Devices, do(t, f.Devices, todo...)) {
			t.Errorf("%v: FinishFs has the code %d, or what it comes to is right", todo, code)
		}
		wantCode(t, "behind them", stepCall(all), impl.ErrBad)
		wantCode(t, "behind them", finishCall(all), impl.ErrBad)
		wantCode(t, "behind them", takeCall(all), impl.ErrBad)
	}
}

// rollCallOf does a rolled call to a file system, and to its second telling; it tells which, and the code.
func rollCallOf(t *testing.T, d *dice, where string, f, want impl.Fs) (impl.Fs, impl.Fs, string, int) {
	t.Helper()
	code, wanted, name := impl.OK, impl.OK, ""
	var a, answer impl.Answer
	switch n := d.roll(24); {
	case n < 7:
		o := rollOpOf(d, want)
		name = "StartOp"
		f, code = impl.StartOp(f, o)
		want, wanted = startedByHand(t, where, want, o)
	case n < 10:
		name = "StartMove"
		up := d.roll(2) == 0
		f, code = impl.StartMove(f, up)
		want, wanted = movedByHand(t, where, want, up)
	case n < 15:
		name = "StepFs"
		f, code = impl.StepFs(f)
		if len(want.Todo) == 0 {
			wanted = impl.ErrIdle
		} else {
			want = steppedByHand(t, want, 1)
		}
	case n < 18:
		name = "FinishFs"
		f, code = impl.FinishFs(f)
		want = steppedByHand(t, want, len(want.Todo))
	case n < 21:
		name = "TakeAnswer"
		f, a, code = impl.TakeAnswer(f)
		want, answer, wanted = takenByHand(want)
	case n < 23:
		name = "DoOp"
		o := rollOpOf(d, want)
		f, a, code = impl.DoOp(f, o)
		want, wanted = startedByHand(t, where, want, o)
		if wanted == impl.OK {
			want, answer, _ = takenByHand(steppedByHand(t, want, len(want.Todo)))
		}
	default:
		name = "DecayFs"
		f, code = impl.DecayFs(f)
		want.Heat = decay(t, want.Heat)
	}
	if code != wanted || !sameAnswer(a, answer) {
		t.Fatalf("%s: %s has the code %d and the answer %v, not %d, %v", where, name, code, a, wanted, answer)
	}
	wantFs(t, where+": "+name, f, want)
	return f, want, name, code
}

func takenByHand(f impl.Fs) (impl.Fs, impl.Answer, int) {
	if len(f.Todo) > 0 {
		return f, impl.Answer{}, impl.ErrBusy
	}
	if !f.Fresh {
		return f, impl.Answer{}, impl.ErrNone
	}
	a := f.Answer
	f.Answer, f.Fresh = impl.Answer{}, false
	return f, a, impl.OK
}

// rollOpOf is of the image as it is when all is done.
func rollOpOf(d *dice, f impl.Fs) impl.Op {
	words := slices.Clone(wordsByHand(f.Devices.Pm))
	for _, s := range f.Todo {
		if s.Kind == impl.MiStore {
			words[s.At] = s.Value
		}
	}
	m, _ := readByHand(words)
	return rollOp(d, m)
}

func TestP11RolledCalls(t *testing.T) {
	d := &dice{state: 110}
	count := map[string]int{}
	for n := range 30 {
		f := impl.NewFs()
		if n%3 > 0 {
			f = resting(packed(d.roll(3), d.roll(3)))
		}
		want := cloneFs(f)
		for step := range 120 {
			name, code := "", 0
			f, want, name, code = rollCallOf(t, d, fmt.Sprint("run ", n, ", step ", step), f, want)
			count[fmt.Sprint(name, " ", code)]++
		}
	}
	for _, x := range []string{"StartOp 0", "StartOp 15", "StartMove 0", "StartMove 5", "StartMove 7", "StartMove 15", "StepFs 0", "StepFs 16", "FinishFs 0", "TakeAnswer 0", "TakeAnswer 5", "TakeAnswer 15", "DoOp 0", "DoOp 15", "DecayFs 0"} {
		if count[x] < 5 {
			t.Errorf("%s came only %d times: %v", x, count[x], count)
		}
	}
}

// Moves among operations, and where they are stepped, are not to be seen: the answers and the files are those of operations alone.
func TestP11RolledOperationsAndMoves(t *testing.T) {
	d := &dice{state: 111}
	for n := range 15 {
		plain, tiered := impl.NewFs(), impl.NewFs()
		for step := range 50 {
			where := fmt.Sprint("run ", n, ", step ", step)
			o := rollOp(d, imageByHand(t, where, plain.Devices))
			x, a := doOp(t, where, plain, o)
			y := startOp(t, where, tiered, o)
			for range d.roll(len(y.Todo) + 1) {
				y = stepFs(t, where, y)
			}
			y, b := takeAnswer(t, where, finishFs(t, where, y))
			if !sameAnswer(a, b) || !slices.Equal(x.Heat, y.Heat) {
				t.Fatalf("%s: %+v has the answer %v, not %v, or another heat", where, o, b, a)
			}
			y, _ = wantMoving(t, where, y, d.roll(2) == 0)
			plain, tiered = x, finishFs(t, where, y)
		}
		m, moved := imageByHand(t, "behind", plain.Devices), imageByHand(t, "behind", tiered.Devices)
		if !sameContents(contentsByHand(m, plain.Devices), contentsByHand(moved, tiered.Devices)) {
			t.Fatalf("run %d: the files are others", n)
		}
	}
}
