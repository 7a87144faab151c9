package tests

import (
	"fmt"
	"reflect"
	"slices"
	"testing"

	"loop.example/g00410/impl"
)

const (
	mostAnswers = 80
	mostActs    = 80
)

func worldDoCall(w impl.World, a impl.Act) asked { return ask("WorldDo", impl.WorldDo, w, a) }

func worldRunCall(acts ...impl.Act) asked { return ask("WorldRun", impl.WorldRun, acts) }

func worldAgreesCall(w impl.World) asked { return ask("WorldAgrees", impl.WorldAgrees, w) }

func opAct(o impl.Op) impl.Act { return impl.Act{Kind: impl.AcOp, Op: o} }

func startAct(o impl.Op) impl.Act { return impl.Act{Kind: impl.AcStart, Op: o} }

func stepsAct(n int) impl.Act { return impl.Act{Kind: impl.AcSteps, N: n} }

func finishAct() impl.Act { return impl.Act{Kind: impl.AcFinish} }

func demoteAct() impl.Act { return impl.Act{Kind: impl.AcDemote} }

func promoteAct() impl.Act { return impl.Act{Kind: impl.AcPromote} }

// manyKeeps are more than a list of an argument's own may have, all of them right: within an act they are bounded by nothing but that.
func manyKeeps() [][]int {
	var list [][]int
	for _, n := range []int{impl.MaxList + 1, impl.MaxList + 2, 3 * impl.MaxList, 100000} {
		list = append(list, make([]int, n), slices.Repeat([]int{400}, n), slices.Repeat([]int{0, 1, 2, 3, 400}, n/4))
	}
	return list
}

// manyWrongKeeps have one number among them that is none from 0 to 400.
func manyWrongKeeps() [][]int {
	var list [][]int
	for k, keeps := range manyKeeps() {
		for _, at := range []int{0, impl.MaxList - 1, impl.MaxList, len(keeps) - 1} {
			wrong := slices.Clone(keeps)
			wrong[at] = wrongKeeps()[k%2][0]
			list = append(list, wrong)
		}
	}
	return list
}

func moveAct(up bool) impl.Act {
	if up {
		return promoteAct()
	}
	return demoteAct()
}

func decayAct() impl.Act { return impl.Act{Kind: impl.AcDecay} }

func crashAct(keeps ...int) impl.Act { return impl.Act{Kind: impl.AcCrash, Keeps: keeps} }

type namedWorld struct {
	name  string
	world impl.World
}

func cloneWorld(w impl.World) impl.World {
	w.Fs, w.Model, w.Answers = cloneFs(w.Fs), cloneModel(w.Model), slices.Clone(w.Answers)
	for k := range w.Answers {
		w.Answers[k].Names = slices.Clone(w.Answers[k].Names)
	}
	return w
}

// changedWorld is a copy that one thing is done to.
func changedWorld(name string, w impl.World, do func(w *impl.World)) namedWorld {
	w = cloneWorld(w)
	do(&w)
	return namedWorld{name, w}
}

// thereByHand is the model of what is there.
func thereByHand(t *testing.T, where string, d impl.Devices) impl.Model {
	t.Helper()
	m := imageByHand(t, where, d)
	return modelByHand(m, contentsByHand(m, d))
}

// worldOf is a world of a file system at rest, and of its model.
func worldOf(t *testing.T, where string, f impl.Fs) impl.World {
	t.Helper()
	return impl.World{Fs: f, Model: thereByHand(t, where, f.Devices), Agree: true}
}

// smallWorld is of smallImage.
func smallWorld(t *testing.T) impl.World {
	t.Helper()
	return worldOf(t, "small", resting(smallImage()))
}

// withAnswers has so many answers ahead of its own ones.
func withAnswers(w impl.World, n int) impl.World {
	var list []impl.Answer
	for k := range n {
		list = append(list, impl.Answer{Value: k})
	}
	w.Answers = slices.Concat(list, w.Answers)
	return w
}

// waitingWorld has an operation whose steps are all done, and whose answer was not taken.
func waitingWorld(t *testing.T, w impl.World, o impl.Op) impl.World {
	t.Helper()
	w.Fs = finishFs(t, "waiting", startOp(t, "waiting", w.Fs, o))
	w.Doing = o
	return w
}

func sameWorld(a, b impl.World) bool {
	return alike(reflect.ValueOf(a), reflect.ValueOf(b), false)
}

func wantWorld(t *testing.T, where string, got, want impl.World) {
	t.Helper()
	if !sameFs(got.Fs, want.Fs) {
		t.Fatalf("%s: the file system is another one: todo %v, answer %v, fresh %v, not %v, %v, %v", where, got.Fs.Todo, got.Fs.Answer, got.Fs.Fresh, want.Fs.Todo, want.Fs.Answer, want.Fs.Fresh)
	}
	if !identical(got.Model, want.Model) {
		t.Fatalf("%s: the model is\n%v, not\n%v", where, got.Model, want.Model)
	}
	if got.Doing != want.Doing || got.Agree != want.Agree {
		t.Fatalf("%s: doing %+v, agree %v, not %+v, %v", where, got.Doing, got.Agree, want.Doing, want.Agree)
	}
	if !sameWorld(got, want) {
		t.Fatalf("%s: the answers are %v, not %v", where, got.Answers, want.Answers)
	}
}

// wantAgrees asks for WorldAgrees of a world that is right.
func wantAgrees(t *testing.T, where string, w impl.World, want bool) {
	t.Helper()
	if got, code := impl.WorldAgrees(w); got != want || code != impl.OK {
		t.Fatalf("%s: WorldAgrees is %v, code %d, not %v; agree %v", where, got, code, want, w.Agree)
	}
}

func isOpByHand(o impl.Op) bool {
	to, page, value, ok := usesByHand(o.Kind)
	return ok && len(o.Path) <= 65536 && len(o.To) <= 65536 && (to || o.To == "") && (page || o.Page == 0) && (value || o.Value == 0)
}

// isWorldByHand tells a second time which worlds are right, as far as the file system and the model are.
func isWorldByHand(w impl.World) bool {
	if len(w.Answers) > 80 || w.Fs.Fresh != (w.Doing != impl.Op{}) {
		return false
	}
	return w.Doing == impl.Op{} || isOpByHand(w.Doing)
}

func sameLines(a, b impl.Model) bool { return slices.Equal(textByHand(a), textByHand(b)) }

// actedByHand tells WorldDo a second time, of worlds that are right and of paths that are some.
func actedByHand(t *testing.T, where string, w impl.World, a impl.Act) (impl.World, int) {
	t.Helper()
	w = cloneWorld(w)
	switch a.Kind {
	case 1, 2:
		return begunByHand(t, where, w, a)
	case 3:
		if a.N < 0 || a.N > 200 {
			return w, impl.ErrRange
		}
		w.Fs = steppedByHand(t, w.Fs, min(a.N, len(w.Fs.Todo)))
		return answeredByHand(t, w), impl.OK
	case 4:
		w.Fs = steppedByHand(t, w.Fs, len(w.Fs.Todo))
		return answeredByHand(t, w), impl.OK
	case 5, 6:
		f, code := movedByHand(t, where, w.Fs, a.Kind == 6)
		w.Fs = f
		return w, code
	case 7:
		for at := range w.Fs.Heat {
			w.Fs.Heat[at] >>= 1
		}
		return w, impl.OK
	case 8:
		return crashedWorldByHand(t, where, w, a.Keeps)
	}
	return w, impl.ErrForm
}

func begunByHand(t *testing.T, where string, w impl.World, a impl.Act) (impl.World, int) {
	t.Helper()
	if !isOpByHand(a.Op) {
		return w, impl.ErrBad
	}
	if len(w.Answers) >= 80 {
		return w, impl.ErrMany
	}
	f, code := startedByHand(t, where, w.Fs, a.Op)
	if code != impl.OK {
		return w, code
	}
	w.Fs, w.Doing = f, a.Op
	if a.Kind == 1 {
		w.Fs = steppedByHand(t, w.Fs, len(w.Fs.Todo))
	}
	return answeredByHand(t, w), impl.OK
}

// answeredByHand takes an answer if one waits, nothing is to be done, and there is room for it.
func answeredByHand(t *testing.T, w impl.World) impl.World {
	t.Helper()
	if len(w.Fs.Todo) > 0 || !w.Fs.Fresh || len(w.Answers) == 80 || !impl.FsOK(w.Fs) {
		return w
	}
	a := w.Fs.Answer
	if w.Doing.Kind != 6 || a.Code != 7 {
		m, b := modelDoneByHand(t, w.Model, w.Doing)
		w.Model, w.Agree = m, w.Agree && sameAnswer(a, b)
	}
	w.Fs, _, _ = takenByHand(w.Fs)
	w.Answers, w.Doing = append(w.Answers, a), impl.Op{}
	return w
}

func crashedWorldByHand(t *testing.T, where string, w impl.World, keeps []int) (impl.World, int) {
	t.Helper()
	for _, n := range keeps {
		if n < 0 || n > 400 {
			return w, impl.ErrRange
		}
	}
	f, ok := recoveredByHand(crashedByHand(w.Fs.Devices, keeps))
	if !ok {
		w.Agree = false
		return w, impl.OK
	}
	there := thereByHand(t, where, f.Devices)
	if w.Fs.Fresh {
		if behind, _ := modelDoneByHand(t, w.Model, w.Doing); sameLines(behind, there) {
			w.Model = behind
		}
	}
	w.Fs, w.Doing, w.Agree = f, impl.Op{}, w.Agree && sameLines(w.Model, there)
	return w, impl.OK
}

// acted is WorldDo, held against its second telling.
func acted(t *testing.T, where string, w impl.World, a impl.Act) (impl.World, int) {
	t.Helper()
	where = fmt.Sprintf("%s: %.90s", where, fmt.Sprintf("%+v", a))
	want, wanted := actedByHand(t, where, w, a)
	got, code := impl.WorldDo(w, a)
	if code != wanted {
		t.Fatalf("%s: WorldDo has the code %d, not %d", where, code, wanted)
	}
	wantWorld(t, where, got, want)
	return got, code
}

// act is an act that has no code, behind which the world is right.
func act(t *testing.T, where string, w impl.World, a impl.Act) impl.World {
	t.Helper()
	got, code := acted(t, where, w, a)
	if code != impl.OK || !impl.WorldOK(got) || !isWorldByHand(got) {
		t.Fatalf("%s: %+v has the code %d, or the world behind it is not right", where, a, code)
	}
	return got
}

// agreeing is an act behind which the world agrees with its model.
func agreeing(t *testing.T, where string, w impl.World, a impl.Act) impl.World {
	t.Helper()
	got := act(t, where, w, a)
	wantAgrees(t, where, got, true)
	return got
}

func worldWith(t *testing.T, w impl.World, acts ...impl.Act) impl.World {
	t.Helper()
	for _, a := range acts {
		w = agreeing(t, "worldWith", w, a)
	}
	return w
}

// wantAnswers asks for all answers of a world.
func wantAnswers(t *testing.T, where string, w impl.World, want ...impl.Answer) {
	t.Helper()
	if !slices.EqualFunc(w.Answers, want, sameAnswer) {
		t.Fatalf("%s: the answers are %v, not %v", where, w.Answers, want)
	}
}

// stageWorld is a world in the midst of an operation or a move, with its model as it is behind that.
type stageWorld struct {
	namedWorld
	behind impl.Model
}

// begunWorld has begun an act; one that takes no steps is left out by an answer of false.
func begunWorld(t *testing.T, name string, f impl.Fs, a impl.Act) (stageWorld, bool) {
	t.Helper()
	name = fmt.Sprintf("%s: %+v", name, a)
	w := worldOf(t, name, f)
	x := stageWorld{namedWorld{name, agreeing(t, name, w, a)}, w.Model}
	if a.Kind == impl.AcStart {
		x.behind, _ = modelDoneByHand(t, w.Model, a.Op)
	}
	return x, len(x.world.Fs.Todo) > 0
}

// begunWorlds are in the midst of operations of each kind that has steps, and of both moves, on pages and on sectors.
func begunWorlds(t *testing.T) []stageWorld {
	t.Helper()
	var list []stageWorld
	add := func(name string, f impl.Fs, acts ...impl.Act) {
		for _, a := range acts {
			if x, ok := begunWorld(t, name, f, a); ok {
				list = append(list, x)
			}
		}
	}
	small := resting(smallImage())
	small.Heat = risingHeat()
	for _, o := range opsOfEachKind() {
		add("small", small, startAct(o))
	}
	add("small", small, demoteAct(), promoteAct())
	add("one free", resting(packed(1, 1)), demoteAct(), promoteAct())
	add("a new one", impl.NewFs(), startAct(makeOp("/a")), startAct(mkdirOp("/d")))
	add("a sector", resting(packed(0, 1)), startAct(writeOp("/f", 0, 5)), startAct(writeOp("/d/d/e", 6, 5)), startAct(removeOp("/zzzzzz")))
	add("full", resting(fullImage()), startAct(cutOp("/a", 0)))
	tree := resting(treeImage())
	add("the tree", tree, startAct(removeOp(pathOfAFile(tree))))
	return list
}

// actsOfEachKind have no fault by themselves.
func actsOfEachKind() []impl.Act {
	return []impl.Act{
		opAct(writeOp("/f", 0, 5)), opAct(listOp("/")), startAct(writeOp("/f", 0, 5)), startAct(statOp("/nobody")),
		stepsAct(0), stepsAct(3), stepsAct(mostTodo), finishAct(), demoteAct(), promoteAct(), decayAct(), crashAct(), crashAct(1, 0, 400),
	}
}

// rightWorlds are at rest, in the midst of operations and of moves, with answers and without, agreeing and not.
func rightWorlds(t *testing.T) []namedWorld {
	t.Helper()
	small := smallWorld(t)
	list := []namedWorld{{"a new one", impl.NewWorld()}, {"small", small}}
	add := func(name string, w impl.World, do func(w *impl.World)) {
		list = append(list, changedWorld(name, w, do))
	}
	for _, x := range restingSystems() {
		add("resting: "+x.name, small, func(w *impl.World) { w.Fs = x.fs })
	}
	for _, x := range waitingSystems() {
		add(x.name, small, func(w *impl.World) { w.Fs, w.Doing = x.fs, writeOp("/f", 0, 5) })
	}
	for _, x := range busySystems() {
		add("busy: "+x.name, small, func(w *impl.World) {
			w.Fs = x.fs
			if x.fs.Fresh {
				w.Doing = statOp("/")
			}
		})
	}
	for _, x := range rightModels() {
		add("the model: "+x.name, small, func(w *impl.World) { w.Model = x.model })
	}
	for _, o := range opsOfEachKind() {
		list = append(list, namedWorld{fmt.Sprintf("waits: %+v", o), waitingWorld(t, small, o)})
	}
	for _, x := range begunWorlds(t) {
		list = append(list, x.namedWorld)
	}
	add("it does not agree", small, func(w *impl.World) { w.Agree = false })
	add("strange answers", small, func(w *impl.World) { w.Answers = someAnswers() })
	add("as many answers as there may be", withAnswers(small, mostAnswers), func(w *impl.World) {})
	add("empty lists, not nil", small, func(w *impl.World) { w.Answers = []impl.Answer{} })
	return list
}

// worldHosts are right worlds, each of them in another state.
func worldHosts(t *testing.T) []namedWorld {
	t.Helper()
	small := smallWorld(t)
	moving := small
	moving.Fs = startMove(t, "moving", small.Fs, false)
	midst := small
	midst.Fs, midst.Doing = steppedByHand(t, startOp(t, "midst", small.Fs, makeOp("/new")), 5), makeOp("/new")
	return []namedWorld{
		{"resting", small},
		{"waiting", waitingWorld(t, small, writeOp("/f", 0, 5))},
		{"moving", moving},
		{"in the midst", midst},
		{"with answers", withAnswers(small, 3)},
		{"without agreement", changedWorld("", small, func(w *impl.World) { w.Agree = false }).world},
	}
}

// wrongWorlds are not right in one thing each; every is how many of the wrong file systems and models are left out between two.
func wrongWorlds(t *testing.T, every int) []namedWorld {
	t.Helper()
	list := []namedWorld{{"nothing", impl.World{}}, {"nothing but agreement", impl.World{Agree: true}}}
	small := smallWorld(t)
	for k, x := range wrongSystems() {
		w := small
		w.Fs = x.fs
		if x.fs.Fresh {
			w.Doing = statOp("/")
		}
		if k%every == 0 {
			list = append(list, namedWorld{"the file system: " + x.name, w})
		}
	}
	for _, host := range worldHosts(t) {
		list = append(list, wrongRecords(host)...)
		for k, x := range wrongModels() {
			w := host.world
			w.Model = x.model
			if k%every == 0 {
				list = append(list, namedWorld{host.name + ", the model: " + x.name, w})
			}
		}
	}
	return list
}

// wrongRecords have another Doing than the file system has an operation, or too many answers.
func wrongRecords(host namedWorld) []namedWorld {
	var list []namedWorld
	wrong := func(name string, do func(w *impl.World)) {
		list = append(list, changedWorld(host.name+", "+name, host.world, do))
	}
	for _, n := range []int{mostAnswers + 1, mostAnswers + 2, 2 * mostAnswers, impl.MaxList + 1} {
		wrong(fmt.Sprint(n, " answers"), func(w *impl.World) { w.Answers = make([]impl.Answer, n) })
	}
	for k, o := range noOps()[1:] {
		wrong(fmt.Sprint("the operation that is none ", k), func(w *impl.World) { w.Doing = o })
	}
	if host.world.Fs.Fresh {
		wrong("fresh, and no operation", func(w *impl.World) { w.Doing = impl.Op{} })
		wrong("an operation, and not fresh", func(w *impl.World) { w.Fs.Fresh, w.Fs.Answer = false, impl.Answer{} })
		return list
	}
	for _, o := range opsOfEachKind() {
		wrong(fmt.Sprintf("%+v, and not fresh", o), func(w *impl.World) { w.Doing = o })
	}
	wrong("a path alone", func(w *impl.World) { w.Doing.Path = "/f" })
	wrong("a value alone", func(w *impl.World) { w.Doing.Value = 1 })
	wrong("fresh, and no operation", func(w *impl.World) { w.Fs.Fresh = true })
	return list
}

// rollAct is of a kind by dice; now and then it is none, or one that is refused.
func rollAct(d *dice, w impl.World) impl.Act {
	switch d.roll(20) {
	case 0, 1, 2, 3, 4, 5:
		return opAct(rollOpOf(d, w.Fs))
	case 6, 7, 8:
		return startAct(rollOpOf(d, w.Fs))
	case 9, 10, 11:
		return stepsAct(d.roll(16))
	case 12:
		return stepsAct(d.roll(mostTodo + 1))
	case 13:
		return finishAct()
	case 14:
		return demoteAct()
	case 15:
		return promoteAct()
	case 16:
		return decayAct()
	case 17, 18:
		return crashAct(rollKeeps(d)...)
	}
	none := []impl.Act{{}, {Kind: 9}, {Kind: -1}, stepsAct(mostTodo + 1), stepsAct(-1), crashAct(-1), crashAct(2, 401), opAct(impl.Op{}), startAct(impl.Op{Kind: 11, Path: "/"}), opAct(impl.Op{Kind: impl.OpStat, Path: "/", Page: 1})}
	return none[d.roll(len(none))]
}

// rolledWorld begins anew, with an image by dice, or with little room.
func rolledWorld(t *testing.T, d *dice, run int) impl.World {
	t.Helper()
	switch run % 4 {
	case 0:
		return impl.NewWorld()
	case 1:
		f := resting(rollImage(d))
		f.Heat = rollHeat(d, 5)
		return worldOf(t, "rolled", f)
	}
	return worldOf(t, "packed", resting(packed(d.roll(2), d.roll(2))))
}
