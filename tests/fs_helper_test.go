package tests

import (
	"fmt"
	"reflect"
	"slices"
	"testing"

	"loop.example/g00410/impl"
)

const mostTodo = 200

// resting is a file system of an image, with nothing to be done and no answer.
func resting(m impl.Image) impl.Fs {
	return impl.Fs{Devices: housed(m), Heat: evenHeat(1)}
}

func cloneFs(f impl.Fs) impl.Fs {
	f.Devices = unsure(impl.Devices{
		Pm:  impl.Pm{Words: slices.Clone(f.Devices.Pm.Words)},
		Blk: impl.Blk{Sectors: slices.Clone(f.Devices.Blk.Sectors)},
	}, f.Devices.Pm.Pending, f.Devices.Blk.Pending)
	f.Heat, f.Todo, f.Answer.Names = slices.Clone(f.Heat), slices.Clone(f.Todo), slices.Clone(f.Answer.Names)
	return f
}

func sameFs(a, b impl.Fs) bool {
	return alike(reflect.ValueOf(a), reflect.ValueOf(b), false)
}

// wantFs asks for a file system, and that it is right.
func wantFs(t *testing.T, where string, got, want impl.Fs) {
	t.Helper()
	if !impl.FsOK(got) {
		t.Fatalf("%s: it is not right", where)
	}
	if !sameFs(got, want) {
		t.Fatalf("%s: it is another one: todo %v, answer %v, fresh %v, not %v, %v, %v", where, got.Todo, got.Answer, got.Fresh, want.Todo, want.Answer, want.Fresh)
	}
}

func startOpCall(f impl.Fs, o impl.Op) asked { return ask("StartOp", impl.StartOp, f, o) }

func startMoveCall(f impl.Fs, promote bool) asked {
	return ask(fmt.Sprint("StartMove ", promote), impl.StartMove, f, promote)
}

func stepCall(f impl.Fs) asked { return ask("StepFs", impl.StepFs, f) }

func finishCall(f impl.Fs) asked { return ask("FinishFs", impl.FinishFs, f) }

func takeCall(f impl.Fs) asked { return ask("TakeAnswer", impl.TakeAnswer, f) }

func doOpCall(f impl.Fs, o impl.Op) asked { return ask("DoOp", impl.DoOp, f, o) }

func decayFsCall(f impl.Fs) asked { return ask("DecayFs", impl.DecayFs, f) }

// beginCalls are those that begin something.
func beginCalls(f impl.Fs, o impl.Op) []asked {
	return []asked{startOpCall(f, o), doOpCall(f, o), startMoveCall(f, false), startMoveCall(f, true)}
}

// systemCalls are all calls of chapter 11 that have a code.
func systemCalls(f impl.Fs, o impl.Op) []asked {
	return append(beginCalls(f, o), stepCall(f), finishCall(f), takeCall(f), decayFsCall(f))
}

// wantStays asks for a code, for what was given as the first answer, and for a zero answer if there is one beside it.
func wantStays(t *testing.T, where string, a asked, code int) {
	t.Helper()
	wantAsItWas(t, where, a, code)
	answers := a.answers()
	for _, v := range answers[1 : len(answers)-1] {
		if !isZeroValue(v) {
			t.Errorf("%s: %s has an answer beside the code %d", where, a.name, code)
		}
	}
}

// touchedByHand is the heat behind a read or a write of a page.
func touchedByHand(heat []int, s spot) []int {
	heat = slices.Clone(heat)
	heat[s.at()] = min(64, heat[s.at()]+8)
	return heat
}

// startedByHand tells StartOp a second time, on a file system that is right and paths that are some.
func startedByHand(t *testing.T, where string, f impl.Fs, o impl.Op) (impl.Fs, int) {
	t.Helper()
	if len(f.Todo) > 0 || f.Fresh {
		return f, impl.ErrBusy
	}
	m := imageByHand(t, where, f.Devices)
	f.Todo, f.Answer = opByHand(m, f.Devices, o)
	f.Fresh = true
	if (o.Kind == 6 || o.Kind == 8) && f.Answer.Code == impl.OK {
		i, _ := lookupByHand(m, o.Path)
		f.Heat = touchedByHand(f.Heat, spot{i, o.Page})
	}
	return f, impl.OK
}

// movedByHand tells StartMove a second time.
func movedByHand(t *testing.T, where string, f impl.Fs, up bool) (impl.Fs, int) {
	t.Helper()
	if len(f.Todo) > 0 || f.Fresh {
		return f, impl.ErrBusy
	}
	v := demote()
	if up {
		v = promote()
	}
	m := imageByHand(t, where, f.Devices)
	s, ok := pickByHand(m, f.Heat, v.from)
	if !ok {
		return f, impl.ErrNone
	}
	steps, code := v.byHand(m, f.Devices, s)
	f.Todo = steps
	return f, code
}

// steppedByHand is behind the first n steps of Todo.
func steppedByHand(t *testing.T, f impl.Fs, n int) impl.Fs {
	t.Helper()
	f.Devices = do(t, f.Devices, f.Todo[:n]...)
	f.Todo = f.Todo[n:]
	return f
}

func startOp(t *testing.T, where string, f impl.Fs, o impl.Op) impl.Fs {
	t.Helper()
	got, code := impl.StartOp(f, o)
	if code != impl.OK {
		t.Fatalf("%s: StartOp of %+v has the code %d", where, o, code)
	}
	want, _ := startedByHand(t, where, f, o)
	wantFs(t, fmt.Sprintf("%s: StartOp of %+v", where, o), got, want)
	return got
}

// wantMoving holds StartMove, be there a page to move or not, against its second telling.
func wantMoving(t *testing.T, where string, f impl.Fs, up bool) (impl.Fs, int) {
	t.Helper()
	where = fmt.Sprint(where, ": StartMove, up: ", up)
	want, wanted := movedByHand(t, where, f, up)
	got, code := impl.StartMove(f, up)
	if code != wanted {
		t.Fatalf("%s: it has the code %d, not %d", where, code, wanted)
	}
	wantFs(t, where, got, want)
	return got, code
}

// startMove is of a file system with a page to move, and room for it.
func startMove(t *testing.T, where string, f impl.Fs, up bool) impl.Fs {
	t.Helper()
	got, code := wantMoving(t, where, f, up)
	if code != impl.OK {
		t.Fatalf("%s: StartMove has the code %d", where, code)
	}
	return got
}

func stepFs(t *testing.T, where string, f impl.Fs) impl.Fs {
	t.Helper()
	got, code := impl.StepFs(f)
	if code != impl.OK {
		t.Fatalf("%s: StepFs has the code %d", where, code)
	}
	wantFs(t, where+": StepFs", got, steppedByHand(t, f, 1))
	return got
}

func finishFs(t *testing.T, where string, f impl.Fs) impl.Fs {
	t.Helper()
	got, code := impl.FinishFs(f)
	if code != impl.OK {
		t.Fatalf("%s: FinishFs has the code %d", where, code)
	}
	wantFs(t, where+": FinishFs", got, steppedByHand(t, f, len(f.Todo)))
	return got
}

func takeAnswer(t *testing.T, where string, f impl.Fs) (impl.Fs, impl.Answer) {
	t.Helper()
	got, a, code := impl.TakeAnswer(f)
	if code != impl.OK || !sameAnswer(a, f.Answer) {
		t.Fatalf("%s: TakeAnswer has the code %d and takes %v, not %v", where, code, a, f.Answer)
	}
	want := f
	want.Answer, want.Fresh = impl.Answer{}, false
	wantFs(t, where+": TakeAnswer", got, want)
	return got, a
}

func doOp(t *testing.T, where string, f impl.Fs, o impl.Op) (impl.Fs, impl.Answer) {
	t.Helper()
	got, a, code := impl.DoOp(f, o)
	if code != impl.OK {
		t.Fatalf("%s: DoOp of %+v has the code %d", where, o, code)
	}
	want, wanted := takeAnswer(t, where, finishFs(t, where, startOp(t, where, f, o)))
	wantFs(t, fmt.Sprintf("%s: DoOp of %+v", where, o), got, want)
	if !sameAnswer(a, wanted) {
		t.Fatalf("%s: DoOp of %+v answers %v, not %v", where, o, a, wanted)
	}
	return got, a
}

// systemWith is what operations that are done one behind the other make of a new file system.
func systemWith(t *testing.T, list ...impl.Op) impl.Fs {
	t.Helper()
	f := impl.NewFs()
	for _, o := range list {
		x, a := doOp(t, "systemWith", f, o)
		if a.Code != impl.OK {
			t.Fatalf("%+v has the code %d", o, a.Code)
		}
		f = x
	}
	return f
}

type namedFs struct {
	name string
	fs   impl.Fs
}

// changedFs is a copy that one thing is done to.
func changedFs(name string, f impl.Fs, do func(f *impl.Fs)) namedFs {
	f = cloneFs(f)
	do(&f)
	return namedFs{name, f}
}

// fences are steps that do nothing more than be there.
func fences(n int) []impl.Micro { return slices.Repeat([]impl.Micro{fenceStep()}, n) }

// restingSystems have nothing to be done, and no answer.
func restingSystems() []namedFs {
	list := []namedFs{{"a new one", impl.NewFs()}}
	for _, m := range rightImages() {
		list = append(list, namedFs{m.name, resting(m.image)})
	}
	for _, h := range roomyHosts() {
		list = append(list, namedFs{h.name, impl.Fs{Devices: h.devices, Heat: risingHeat()}})
	}
	for _, h := range rightHeats() {
		list = append(list, namedFs{h.name, impl.Fs{Devices: housed(smallImage()), Heat: h.heat}})
	}
	empty := resting(smallImage())
	empty.Todo, empty.Answer.Names = []impl.Micro{}, []string{}
	empty.Devices.Pm.Pending, empty.Devices.Blk.Pending = []impl.Store{}, []impl.Sector{}
	return append(list, namedFs{"empty lists, not nil", empty}, namedFs{"the tree", resting(treeImage())})
}

// someAnswers may wait, however strange they are.
func someAnswers() []impl.Answer {
	return []impl.Answer{{}, {Code: impl.ErrNone}, {Value: 131}, {Names: []string{"a", "zzzzzz"}}, {Code: -1, Value: -1, Names: []string{""}}}
}

// waitingSystems have nothing to be done, but an answer that waits.
func waitingSystems() []namedFs {
	var list []namedFs
	for _, m := range []impl.Image{smallImage(), fullImage(), bareImage()} {
		for _, a := range someAnswers() {
			f := resting(m)
			f.Answer, f.Fresh = a, true
			list = append(list, namedFs{fmt.Sprint("waits: ", a), f})
		}
	}
	return list
}

// busySystems have something to be done: they need no right image, may have stores and writes that are not sure, and a journal.
func busySystems() []namedFs {
	small := resting(smallImage())
	var list []namedFs
	busy := func(name string, todo []impl.Micro, do func(f *impl.Fs)) {
		list = append(list, changedFs(name, small, func(f *impl.Fs) {
			f.Todo = todo
			do(f)
		}))
	}
	nothing := func(f *impl.Fs) {}
	busy("all steps that are some", rightSteps(), nothing)
	busy("as many steps as there may be", slices.Repeat([]impl.Micro{storeStep(335, 7)}, mostTodo), nothing)
	busy("no words but noughts", fences(1), func(f *impl.Fs) { f.Devices = zeroPair() })
	busy("an image that is not right", fences(1), func(f *impl.Fs) { f.Devices = housed(wronged(smallImage())) })
	busy("a journal of one", fences(1), func(f *impl.Fs) { f.Devices.Pm.Words[8] = 1 })
	busy("a journal that is none", fences(1), func(f *impl.Fs) { f.Devices.Pm.Words[8] = 1008 })
	busy("unsure", fences(1), func(f *impl.Fs) {
		f.Devices = unsure(f.Devices, []impl.Store{{At: 3, Value: 3}}, []impl.Sector{{At: 3, Value: 3}})
	})
	for _, n := range []int{1, 2, 57, mostTodo} {
		busy(fmt.Sprint(mostStores-n, " stores and ", n, " steps"), slices.Repeat([]impl.Micro{storeStep(335, 7)}, n), func(f *impl.Fs) {
			f.Devices = unsure(f.Devices, storesOf(mostStores-n, 20, 335), nil)
		})
		busy(fmt.Sprint(mostStores-n, " writes and ", n, " steps"), slices.Repeat([]impl.Micro{writeStep(31, 7)}, n), func(f *impl.Fs) {
			f.Devices = unsure(f.Devices, nil, writesOf(mostStores-n, 20, 31))
		})
	}
	for _, x := range slices.Clone(list) {
		list = append(list, changedFs(x.name+", an answer behind it", x.fs, func(f *impl.Fs) {
			f.Answer, f.Fresh = impl.Answer{Value: 5, Names: []string{"a"}}, true
		}))
	}
	return list
}

func rightSystems() []namedFs {
	return slices.Concat(restingSystems(), waitingSystems(), busySystems())
}

// wrongParts are not right in one thing each, whether there is something to be done or not.
func wrongParts(host namedFs) []namedFs {
	var list []namedFs
	wrong := func(name string, do func(f *impl.Fs)) {
		list = append(list, changedFs(host.name+", "+name, host.fs, do))
	}
	for _, d := range wrongDevices() {
		wrong(d.name, func(f *impl.Fs) { f.Devices.Blk = d.blk })
	}
	for _, m := range wrongMemories() {
		wrong(m.name, func(f *impl.Fs) { f.Devices.Pm = m.pm })
	}
	for _, h := range slices.Concat(wrongHeats(), longHeats()) {
		wrong("heat: "+h.name, func(f *impl.Fs) { f.Heat = h.heat })
	}
	for _, s := range wrongSteps() {
		wrong(fmt.Sprint("the step ", s), func(f *impl.Fs) { f.Todo = append(f.Todo, s) })
	}
	for _, n := range []int{mostTodo + 1, 2 * mostTodo, impl.MaxList, impl.MaxList + 1} {
		wrong(fmt.Sprint(n, " steps"), func(f *impl.Fs) { f.Todo = fences(n) })
	}
	wrong("a step that is none among others", func(f *impl.Fs) { f.Todo = slices.Concat(fences(20), []impl.Micro{{}}, fences(20)) })
	for _, a := range someAnswers()[1:] {
		wrong(fmt.Sprint("the answer ", a, " of none"), func(f *impl.Fs) { f.Answer, f.Fresh = a, false })
	}
	for _, n := range []int{1, 2, 57, mostTodo} {
		for _, s := range []impl.Micro{storeStep(3, 3), flushStep(3), fenceStep(), writeStep(3, 3), barrierStep()} {
			todo := slices.Repeat([]impl.Micro{s}, n)
			wrong(fmt.Sprint(mostStores-n+1, " stores and ", n, " steps ", s), func(f *impl.Fs) {
				f.Devices, f.Todo = unsure(host.fs.Devices, storesOf(mostStores-n+1, 20), nil), todo
			})
			wrong(fmt.Sprint(mostStores-n+1, " writes and ", n, " steps ", s), func(f *impl.Fs) {
				f.Devices, f.Todo = unsure(host.fs.Devices, nil, writesOf(mostStores-n+1, 20)), todo
			})
		}
	}
	return list
}

// wrongRests are not right because nothing is to be done; with a step they would be.
func wrongRests(host namedFs) []namedFs {
	var list []namedFs
	wrong := func(name string, do func(f *impl.Fs)) {
		list = append(list, changedFs(host.name+", "+name, host.fs, do))
	}
	for _, h := range wrongHosts() {
		if impl.DevicesOK(h.devices) && len(h.devices.Pm.Pending) < mostStores && len(h.devices.Blk.Pending) < mostStores {
			wrong(h.name, func(f *impl.Fs) { f.Devices = h.devices })
		}
	}
	for _, n := range []int{1, 2, 16, 17, 1008, impl.MaxWord - 1} {
		wrong(fmt.Sprint("a journal of ", n), func(f *impl.Fs) { f.Devices.Pm.Words[8] = n })
	}
	for _, s := range []impl.Store{{At: 3, Value: 3}, {At: 0, Value: 7}, {At: 20, Value: 1020, Flushed: true}, {At: 335, Value: 0, Flushed: true}, {At: 8}} {
		wrong(fmt.Sprint("the store ", s), func(f *impl.Fs) { f.Devices = unsure(f.Devices, []impl.Store{s}, nil) })
	}
	for _, w := range []impl.Sector{{}, {At: 5, Value: 5}, {At: 31, Value: 1031}} {
		wrong(fmt.Sprint("the write ", w), func(f *impl.Fs) { f.Devices = unsure(f.Devices, nil, []impl.Sector{w}) })
	}
	return list
}

// wrongSystems are without Todo and with some, without an answer and with one.
func wrongSystems() []namedFs {
	small := resting(smallImage())
	waiting := changedFs("waiting", small, func(f *impl.Fs) { f.Answer, f.Fresh = impl.Answer{Value: 5, Names: []string{"a"}}, true })
	busy := changedFs("busy", small, func(f *impl.Fs) { f.Todo = []impl.Micro{storeStep(20, 5), flushStep(20), fenceStep()} })
	both := changedFs("both", busy.fs, func(f *impl.Fs) { f.Answer, f.Fresh = waiting.fs.Answer, true })
	list := []namedFs{{"nothing", impl.Fs{}}, {"fresh alone", impl.Fs{Fresh: true}}}
	for _, host := range []namedFs{{"resting", small}, waiting, busy, both} {
		list = append(list, wrongParts(host)...)
	}
	for _, host := range []namedFs{{"resting", small}, waiting, {"without pages", resting(bareImage())}} {
		list = append(list, wrongRests(host)...)
	}
	return list
}
