package tests

import (
	"fmt"
	"slices"
	"testing"

	"loop.example/g00410/impl"
)

// noOps are operations that are none.
func noOps() []impl.Op {
	list := []impl.Op{{}, {Kind: -1}, {Kind: 11, Path: "/f"}, {Kind: impl.OpStat, Path: "/f", Page: 1}, {Kind: impl.OpMake, Path: "/new", Value: 1}, {Kind: impl.OpRead, Path: "/f", To: "/x"}}
	for _, long := range longTexts() {
		list = append(list, makeOp(long), statOp(long), linkOp("/f", long))
	}
	return list
}

// opsOfEachKind are some that are OK in smallImage, and some that have a code there.
func opsOfEachKind() []impl.Op {
	return []impl.Op{
		makeOp("/new"), makeOp("/f"), mkdirOp("/new"), mkdirOp("/"), removeOp("/f"), removeOp("/zzzzzz"), removeOp("/d"),
		linkOp("/f", "/new"), linkOp("/d", "/new"), renameOp("/d", "/new"), renameOp("/d", "/d/x"),
		writeOp("/f", 0, 5), writeOp("/zzzzzz", 5, 6), writeOp("/d/d/e", 7, 0), writeOp("/f", 8, 5), writeOp("/nobody", 0, 5),
		cutOp("/zzzzzz", 1), cutOp("/f", 8), cutOp("/f", 9), readOp("/f", 0), readOp("/f", 1), readOp("/f", 3), readOp("/d", 0),
		statOp("/f"), statOp("/nobody"), listOp("/"), listOp("/f"),
	}
}

func TestP1RightSystems(t *testing.T) {
	for _, x := range rightSystems() {
		if !impl.FsOK(x.fs) {
			t.Errorf("%s: FsOK is false", x.name)
		}
		wantCode(t, x.name, finishCall(x.fs), impl.OK)
		wantCode(t, x.name, decayFsCall(x.fs), impl.OK)
	}
}

// With a step to be done nothing is asked of the image, of what is sure, and of the journal.
func TestP1RestsThatAreWrong(t *testing.T) {
	for _, host := range []namedFs{{"resting", resting(smallImage())}, waitingSystems()[3]} {
		for _, x := range wrongRests(host) {
			if impl.FsOK(x.fs) {
				t.Errorf("%s: FsOK is true", x.name)
			}
			x.fs.Todo = []impl.Micro{barrierStep()}
			if !impl.FsOK(x.fs) {
				t.Errorf("%s: FsOK with a step is false", x.name)
			}
			wantCode(t, x.name+", with a step", stepCall(x.fs), impl.OK)
			wantCode(t, x.name+", with a step", finishCall(x.fs), impl.OK)
			wantStays(t, x.name+", with a step", startOpCall(x.fs, statOp("/")), impl.ErrBusy)
			wantStays(t, x.name+", with a step", startMoveCall(x.fs, false), impl.ErrBusy)
		}
	}
}

// That a file system is not right is told ahead of all else: of what is to be done, of an answer that waits, and of nothing to be done.
func TestP1WrongSystems(t *testing.T) {
	for _, x := range wrongSystems() {
		if impl.FsOK(x.fs) {
			t.Errorf("%s: FsOK is true", x.name)
		}
		for _, c := range systemCalls(x.fs, writeOp("/f", 0, 5)) {
			wantCode(t, x.name, c, impl.ErrBad)
		}
		for _, o := range []impl.Op{{}, listOp("/"), makeOp("/f")} {
			wantCode(t, x.name, startOpCall(x.fs, o), impl.ErrBad)
			wantCode(t, x.name, doOpCall(x.fs, o), impl.ErrBad)
		}
	}
}

// That an operation is none is told ahead of what is to be done, and of an answer that waits.
func TestP1NoOperations(t *testing.T) {
	for _, x := range rightSystems() {
		for _, o := range noOps() {
			where := fmt.Sprintf("%s, %.40q", x.name, fmt.Sprint(o))
			wantCode(t, where, startOpCall(x.fs, o), impl.ErrBad)
			wantCode(t, where, doOpCall(x.fs, o), impl.ErrBad)
		}
	}
}

func TestP1BusySystems(t *testing.T) {
	for _, x := range slices.Concat(busySystems(), waitingSystems()) {
		for _, o := range []impl.Op{writeOp("/f", 0, 5), readOp("/f", 0), makeOp("/f"), statOp("/nobody"), listOp("")} {
			for _, c := range beginCalls(x.fs, o) {
				wantStays(t, x.name, c, impl.ErrBusy)
			}
		}
	}
	for _, x := range busySystems() {
		wantStays(t, x.name, takeCall(x.fs), impl.ErrBusy)
		wantCode(t, x.name, stepCall(x.fs), impl.OK)
	}
	for _, x := range waitingSystems() {
		wantStays(t, x.name, stepCall(x.fs), impl.ErrIdle)
		wantCode(t, x.name, takeCall(x.fs), impl.OK)
	}
}

func TestP1RestingSystems(t *testing.T) {
	for _, x := range restingSystems() {
		wantStays(t, x.name, stepCall(x.fs), impl.ErrIdle)
		wantStays(t, x.name, takeCall(x.fs), impl.ErrNone)
		for _, o := range append(opsOfEachKind(), statOp(""), writeOp("//", -1, -1)) {
			wantCode(t, x.name, startOpCall(x.fs, o), impl.OK)
			wantCode(t, x.name, doOpCall(x.fs, o), impl.OK)
		}
	}
}

// movingSystem has the codes of both moves when nothing else is to be done.
type movingSystem struct {
	namedFs
	down, up int
}

func movingSystems() []movingSystem {
	return []movingSystem{
		{namedFs{"no pages at all", resting(bareImage())}, impl.ErrNone, impl.ErrNone},
		{namedFs{"pages of both tiers", resting(smallImage())}, impl.OK, impl.OK},
		{namedFs{"a page of the memory alone", resting(withFiles([]int{0, pageEntry(5)}))}, impl.OK, impl.ErrNone},
		{namedFs{"a sector alone", resting(withFiles([]int{0, sectorEntry(5)}))}, impl.ErrNone, impl.OK},
		{namedFs{"the memory is full", resting(filled(impl.TierPm, impl.Pages))}, impl.OK, impl.ErrNone},
		{namedFs{"the block device is full", resting(filled(impl.TierBlk, impl.BlkSize))}, impl.ErrNone, impl.OK},
		{namedFs{"all is full", resting(fullImage())}, impl.ErrFull, impl.ErrFull},
		{namedFs{"sectors are free", resting(packed(0, 3))}, impl.OK, impl.ErrFull},
		{namedFs{"pages are free", resting(packed(3, 0))}, impl.ErrFull, impl.OK},
	}
}

func wantMoveCode(t *testing.T, where string, c asked, code int) {
	t.Helper()
	if code == impl.OK {
		wantCode(t, where, c, impl.OK)
		return
	}
	wantStays(t, where, c, code)
}

// Each two faults at once: not right, something to be done or an answer, no page of the tier, and no room in the other one.
func TestP1CodesOfMoving(t *testing.T) {
	for _, x := range movingSystems() {
		wantMoveCode(t, x.name, startMoveCall(x.fs, false), x.down)
		wantMoveCode(t, x.name, startMoveCall(x.fs, true), x.up)
		changes := []namedFs{
			changedFs("busy", x.fs, func(f *impl.Fs) { f.Todo = fences(1) }),
			changedFs("waiting", x.fs, func(f *impl.Fs) { f.Fresh = true }),
			changedFs("both", x.fs, func(f *impl.Fs) { f.Todo, f.Fresh = fences(1), true }),
		}
		for _, y := range changes {
			for _, up := range []bool{false, true} {
				wantStays(t, x.name+", "+y.name, startMoveCall(y.fs, up), impl.ErrBusy)
				wrong := changedFs("wrong", y.fs, func(f *impl.Fs) { f.Heat[0] = 65 })
				wantCode(t, x.name+", "+y.name+", wrong", startMoveCall(wrong.fs, up), impl.ErrBad)
			}
		}
		for _, up := range []bool{false, true} {
			wrong := changedFs("wrong", x.fs, func(f *impl.Fs) { f.Devices.Pm.Words[8] = 1 })
			wantCode(t, x.name+", wrong", startMoveCall(wrong.fs, up), impl.ErrBad)
		}
	}
	// No page of the tier, and the other one has no room.
	both := resting(filled(impl.TierBlk, impl.BlkSize))
	wantStays(t, "no page, no sector free", startMoveCall(both, false), impl.ErrNone)
	both = resting(filled(impl.TierPm, impl.Pages))
	wantStays(t, "no sector, no page free", startMoveCall(both, true), impl.ErrNone)
}

// Each two faults at once: something to be done, and no answer.
func TestP1CodesOfTaking(t *testing.T) {
	for _, todo := range []int{0, 1, mostTodo} {
		for _, fresh := range []bool{false, true} {
			where := fmt.Sprint(todo, " steps, fresh ", fresh)
			f := resting(smallImage())
			f.Todo, f.Fresh = fences(todo), fresh
			switch {
			case todo > 0:
				wantStays(t, where, takeCall(f), impl.ErrBusy)
			case !fresh:
				wantStays(t, where, takeCall(f), impl.ErrNone)
			default:
				wantCode(t, where, takeCall(f), impl.OK)
			}
			f.Heat = evenHeat(65)
			wantCode(t, where+", wrong", takeCall(f), impl.ErrBad)
		}
	}
}

func TestP1SystemsUntouched(t *testing.T) {
	var calls []asked
	for _, x := range rightSystems() {
		calls = append(calls, systemCalls(x.fs, writeOp("/f", 0, 5))...)
		calls = append(calls, ask("FsOK", impl.FsOK, x.fs))
	}
	for _, f := range []impl.Fs{resting(smallImage()), impl.NewFs(), resting(packed(0, 1))} {
		for _, o := range append(opsOfEachKind(), noOps()[:6]...) {
			calls = append(calls, startOpCall(f, o), doOpCall(f, o))
		}
	}
	wantPromise1(t, "right", append(calls, ask("NewFs", impl.NewFs)))
}

func TestP1WrongSystemsUntouched(t *testing.T) {
	var calls []asked
	for n, x := range wrongSystems() {
		if n%3 == 0 {
			calls = append(calls, systemCalls(x.fs, writeOp("/f", 0, 5))...)
			calls = append(calls, ask("FsOK", impl.FsOK, x.fs))
		}
	}
	wantPromise1(t, "wrong", calls)
}

// What is started, stepped and taken is new memory too when it comes from what a call answered.
func TestP1AnsweredSystemsUntouched(t *testing.T) {
	for _, o := range opsOfEachKind() {
		f := startOp(t, "small", resting(smallImage()), o)
		for {
			wantPromise1(t, fmt.Sprintf("%+v, %d left", o, len(f.Todo)), systemCalls(f, listOp("/")))
			if len(f.Todo) == 0 {
				break
			}
			f = stepFs(t, "small", f)
		}
	}
}
