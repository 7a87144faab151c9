package tests

import (
	"fmt"
	"math"
	"slices"
	"testing"

	"loop.example/g00410/impl"
)

func TestP15NewWorld(t *testing.T) {
	w := impl.NewWorld()
	wantWorld(t, "a new one", w, impl.World{Fs: impl.NewFs(), Model: impl.NewModel(), Agree: true})
	if !impl.WorldOK(w) {
		t.Error("NewWorld is not right")
	}
	wantAgrees(t, "a new one", w, true)
}

func TestP15ActsOneByOne(t *testing.T) {
	w := impl.NewWorld()
	ok, value := impl.Answer{}, func(n int) impl.Answer { return impl.Answer{Value: n} }
	var answers []impl.Answer
	for k, c := range []struct {
		act   impl.Act
		code  int
		doing impl.Op
		left  int
		told  []impl.Answer
	}{
		{opAct(makeOp("/a")), impl.OK, impl.Op{}, 0, []impl.Answer{ok}},
		{opAct(writeOp("/a", 1, 5)), impl.OK, impl.Op{}, 0, []impl.Answer{ok}},
		{opAct(readOp("/a", 1)), impl.OK, impl.Op{}, 0, []impl.Answer{value(5)}},
		{startAct(statOp("/a")), impl.OK, impl.Op{}, 0, []impl.Answer{value(121)}},
		{startAct(listOp("/")), impl.OK, impl.Op{}, 0, []impl.Answer{{Names: []string{"a"}}}},
		{startAct(makeOp("/a")), impl.OK, impl.Op{}, 0, []impl.Answer{{Code: impl.ErrTwice}}},
		{startAct(writeOp("/a", 1, 6)), impl.OK, writeOp("/a", 1, 6), 16, nil},
		{stepsAct(0), impl.OK, writeOp("/a", 1, 6), 16, nil},
		{stepsAct(4), impl.OK, writeOp("/a", 1, 6), 12, nil},
		{decayAct(), impl.OK, writeOp("/a", 1, 6), 12, nil},
		{opAct(listOp("/")), impl.ErrBusy, writeOp("/a", 1, 6), 12, nil},
		{demoteAct(), impl.ErrBusy, writeOp("/a", 1, 6), 12, nil},
		{stepsAct(11), impl.OK, writeOp("/a", 1, 6), 1, nil},
		{stepsAct(1), impl.OK, impl.Op{}, 0, []impl.Answer{ok}},
		{stepsAct(200), impl.OK, impl.Op{}, 0, nil},
		{finishAct(), impl.OK, impl.Op{}, 0, nil},
		{demoteAct(), impl.OK, impl.Op{}, 5, nil},
		{promoteAct(), impl.ErrBusy, impl.Op{}, 5, nil},
		{finishAct(), impl.OK, impl.Op{}, 0, nil},
		{demoteAct(), impl.ErrNone, impl.Op{}, 0, nil},
		{opAct(readOp("/a", 1)), impl.OK, impl.Op{}, 0, []impl.Answer{value(6)}},
		{startAct(mkdirOp("/d")), impl.OK, mkdirOp("/d"), 27, nil},
		{crashAct(), impl.OK, impl.Op{}, 0, nil},
		{startAct(statOp("/d")), impl.OK, impl.Op{}, 0, []impl.Answer{{Code: impl.ErrNone}}},
		{startAct(mkdirOp("/d")), impl.OK, mkdirOp("/d"), 27, nil},
		{stepsAct(26), impl.OK, mkdirOp("/d"), 1, nil},
		{crashAct(), impl.OK, impl.Op{}, 0, nil},
		{startAct(statOp("/d")), impl.OK, impl.Op{}, 0, []impl.Answer{value(201)}},
	} {
		where := fmt.Sprint("act ", k)
		after, code := acted(t, where, w, c.act)
		answers = append(answers, c.told...)
		if code != c.code || after.Doing != c.doing || len(after.Fs.Todo) != c.left {
			t.Fatalf("%s, %+v: the code is %d, doing %+v, %d steps are left", where, c.act, code, after.Doing, len(after.Fs.Todo))
		}
		wantAnswers(t, where, after, answers...)
		wantAgrees(t, where, after, true)
		w = after
	}
	wantText(t, "behind them", w.Model, "/a file 1: 0 6", "/d dir")
}

// AcOp is StartOp, FinishFs and TakeAnswer, and the model does the same; AcStart with all its steps, however many at once, is AcOp.
func TestP15OperationsOfEachKind(t *testing.T) {
	for _, host := range []namedWorld{{"small", smallWorld(t)}, {"answers", withAnswers(smallWorld(t), 5)}, {"full", worldOf(t, "full", resting(fullImage()))}} {
		for _, o := range append(opsOfEachKind(), writeOp("/a", 0, 6), removeOp("/a")) {
			where := fmt.Sprintf("%s: %+v", host.name, o)
			w := agreeing(t, where, host.world, opAct(o))
			f, a := doOp(t, where, host.world.Fs, o)
			m, b := modelDo(t, where, host.world.Model, o)
			if a.Code == impl.ErrFull && o.Kind == impl.OpWrite {
				m = host.world.Model
			} else if !sameAnswer(a, b) {
				t.Fatalf("%s: the file system answers %v, the model %v", where, a, b)
			}
			wantWorld(t, where, w, impl.World{Fs: f, Model: m, Answers: append(slices.Clone(host.world.Answers), a), Agree: true})
			begun := agreeing(t, where, host.world, startAct(o))
			n := len(begun.Fs.Todo)
			for k := range n {
				if begun.Doing != o || len(begun.Answers) != len(host.world.Answers) || !identical(begun.Model, host.world.Model) {
					t.Fatalf("%s: behind %d of %d steps it is doing %+v, with the answers %v", where, k, n, begun.Doing, begun.Answers)
				}
				wantWorld(t, where+", finished", agreeing(t, where, begun, finishAct()), w)
				wantWorld(t, where+", all steps", agreeing(t, where, begun, stepsAct(n-k)), w)
				begun = agreeing(t, where, begun, stepsAct(1))
			}
			wantWorld(t, where+", one by one", begun, w)
		}
	}
}

func TestP15StepsOfAnAct(t *testing.T) {
	w := agreeing(t, "begun", smallWorld(t), startAct(renameOp("/f", "/new")))
	n := len(w.Fs.Todo)
	if n < 10 {
		t.Fatalf("there are only %d steps", n)
	}
	for _, most := range []int{0, 1, 2, n - 1, n, n + 1, 100, mostTodo - 1, mostTodo} {
		got := agreeing(t, "steps", w, stepsAct(most))
		if left := max(0, n-most); len(got.Fs.Todo) != left || len(got.Answers) != max(0, 1-left) {
			t.Errorf("behind AcSteps of %d there are %d steps left and %d answers", most, len(got.Fs.Todo), len(got.Answers))
		}
		wantWorld(t, "without steps", agreeing(t, "without steps", smallWorld(t), stepsAct(most)), smallWorld(t))
	}
	for _, most := range append(noIndexes(mostTodo), -1, mostTodo+1) {
		for _, x := range worldHosts(t) {
			wantAsItWas(t, fmt.Sprint(x.name, ", ", most, " steps"), worldDoCall(x.world, stepsAct(most)), impl.ErrRange)
		}
	}
	// As many steps as there may be, and no more at once.
	long := smallWorld(t)
	long.Fs.Todo = slices.Repeat([]impl.Micro{flushStep(20), fenceStep()}, mostTodo/2)
	for _, most := range []int{0, 1, mostTodo - 1, mostTodo} {
		if got := act(t, "long", long, stepsAct(most)); len(got.Fs.Todo) != mostTodo-most {
			t.Errorf("of %d steps %d are left behind AcSteps of %d", mostTodo, len(got.Fs.Todo), most)
		}
	}
}

// Steps of a move are steps like others, but no answer is behind them.
func TestP15MovesInAWorld(t *testing.T) {
	for _, x := range movingSystems() {
		for _, up := range []bool{false, true} {
			w := worldOf(t, x.name, x.fs)
			begun, code := acted(t, x.name, w, moveAct(up))
			if want := map[bool]int{false: x.down, true: x.up}[up]; code != want {
				t.Fatalf("%s: a move, up: %v, has the code %d, not %d", x.name, up, code, want)
			}
			if code != impl.OK {
				wantWorld(t, x.name, begun, w)
				continue
			}
			want := agreeing(t, x.name, begun, finishAct())
			if !identical(want.Model, w.Model) || len(want.Answers) > 0 || len(want.Fs.Todo) > 0 || !sameLines(thereByHand(t, x.name, want.Fs.Devices), w.Model) {
				t.Fatalf("%s: behind a move the model or the files are others, or there is an answer", x.name)
			}
			for n := len(begun.Fs.Todo); n > 0; n-- {
				wantWorld(t, x.name+", the rest", agreeing(t, x.name, begun, stepsAct(n)), want)
				begun = agreeing(t, x.name, begun, stepsAct(1))
			}
			wantWorld(t, x.name+", one by one", begun, want)
		}
	}
}

// Decay changes the heat alone, whatever is to be done or waits.
func TestP15DecayInAWorld(t *testing.T) {
	for _, x := range rightWorlds(t) {
		got := act(t, x.name, x.world, decayAct())
		want := cloneWorld(x.world)
		want.Fs.Heat = decay(t, want.Fs.Heat)
		wantWorld(t, x.name, got, want)
	}
}

// Each act with something to be done and without, with an answer that waits and without.
func TestP15WithTodoAndWaiting(t *testing.T) {
	small := smallWorld(t)
	moving := act(t, "moving", small, demoteAct())
	begun := act(t, "begun", small, startAct(writeOp("/f", 1, 9)))
	waiting := waitingWorld(t, small, writeOp("/f", 1, 9))
	for _, c := range []struct {
		name  string
		world impl.World
		busy  bool
	}{{"nothing", small, false}, {"todo", moving, true}, {"todo, and an answer behind it", begun, true}, {"an answer waits", waiting, true}} {
		for _, a := range []impl.Act{opAct(listOp("/")), opAct(makeOp("/new")), startAct(readOp("/f", 0)), startAct(makeOp("/new")), demoteAct(), promoteAct()} {
			if c.busy {
				wantAsItWas(t, c.name, worldDoCall(c.world, a), impl.ErrBusy)
				continue
			}
			act(t, c.name, c.world, a)
		}
		for _, a := range []impl.Act{stepsAct(0), stepsAct(1), stepsAct(mostTodo), finishAct(), decayAct(), crashAct(), crashAct(400)} {
			act(t, c.name, c.world, a)
		}
	}
	// An answer that waits is taken by steps, even by none, and by a finish; until then it is not there.
	for _, a := range []impl.Act{stepsAct(0), stepsAct(5), finishAct()} {
		w := agreeing(t, "taken", waiting, a)
		wantAnswers(t, "taken", w, impl.Answer{})
		wantWorld(t, "taken", w, agreeing(t, "all at once", small, opAct(writeOp("/f", 1, 9))))
	}
	wantAnswers(t, "decayed", act(t, "decayed", waiting, decayAct()))
	wantAnswers(t, "none to be taken", act(t, "moved", moving, finishAct()))
	// Until it is taken the files are ahead of the model.
	wantAgrees(t, "waiting", waiting, false)
	wantAgrees(t, "a read waits", waitingWorld(t, small, readOp("/f", 0)), true)
}

// The theorem: wherever it crashes, whatever survives, the world agrees with its model, be the operation done or not.
func TestP15CrashBehindEachStep(t *testing.T) {
	d := &dice{state: 150}
	done, undone, moves := 0, 0, 0
	for _, x := range begunWorlds(t) {
		ahead, at := x.world.Model, turn(x.world.Fs.Todo)
		w := x.world
		for n := 0; len(w.Fs.Todo) > 0; n++ {
			for _, keeps := range keepsFor(d, w.Fs) {
				where := fmt.Sprint(x.name, ", ", n, " steps, keeps ", keeps)
				got := agreeing(t, where, w, crashAct(keeps...))
				want := ahead
				if n >= at+3 || n > at && keepByHand(keeps, 0) > 0 {
					want = x.behind
				}
				if !identical(got.Model, want) || got.Doing != (impl.Op{}) || len(got.Answers) > 0 || len(got.Fs.Todo) > 0 || !got.Agree {
					t.Fatalf("%s: the model is another one than it should be, or something is to be done", where)
				}
				switch {
				case x.world.Doing == impl.Op{}:
					moves++
				case sameLines(got.Model, ahead):
					undone++
				default:
					done++
				}
			}
			w = agreeing(t, x.name, w, stepsAct(1))
		}
		if !sameLines(w.Model, x.behind) {
			t.Fatalf("%s: finished, the model is not behind it", x.name)
		}
	}
	if done < 1000 || undone < 1000 || moves < 100 {
		t.Errorf("%d crashes left what was in the midst done, %d undone, %d were in moves", done, undone, moves)
	}
}

// Ahead of the first step, behind the last one with the answer not taken, behind it with the answer taken, without an operation, and in a move.
func TestP15CrashAtTheEnds(t *testing.T) {
	small := smallWorld(t)
	atRest := func(w impl.World) impl.World {
		w.Fs.Heat = evenHeat(1)
		return w
	}
	for _, keeps := range [][]int{nil, {0}, {400}, {1, 0}} {
		wantWorld(t, "nothing", agreeing(t, "nothing", small, crashAct(keeps...)), small)
		for _, o := range opsOfEachKind() {
			where := fmt.Sprintf("%+v, keeps %v", o, keeps)
			begun := agreeing(t, where, small, startAct(o))
			all := agreeing(t, where, small, opAct(o))
			if len(begun.Fs.Todo) > 0 {
				wantWorld(t, where+", ahead of all steps", agreeing(t, where, begun, crashAct(keeps...)), small)
			}
			want := atRest(all)
			want.Answers = nil
			wantWorld(t, where+", the answer waits", agreeing(t, where, waitingWorld(t, small, o), crashAct(keeps...)), want)
			wantWorld(t, where+", the answer is taken", agreeing(t, where, all, crashAct(keeps...)), atRest(all))
		}
		for _, up := range []bool{false, true} {
			moving := agreeing(t, "a move", small, moveAct(up))
			wantWorld(t, "ahead of a move", agreeing(t, "a move", moving, crashAct(keeps...)), small)
			moved := agreeing(t, "a move", moving, finishAct())
			wantWorld(t, "behind a move", agreeing(t, "a move", moved, crashAct(keeps...)), atRest(moved))
		}
	}
}

// An act's keeps may be more than a list of an argument's own: as there are fewer places, the first ones alone are asked for.
func TestP15CrashesWithManyKeeps(t *testing.T) {
	d := &dice{state: 153}
	for _, x := range begunWorlds(t) {
		w := x.world
		for n := 0; len(w.Fs.Todo) > 0; n++ {
			where := fmt.Sprint(x.name, ", ", n, " steps")
			var keeps []int
			for len(keeps) <= impl.MaxList+d.roll(100) {
				keeps = append(keeps, d.roll(3)*d.roll(201))
			}
			got := agreeing(t, where, w, crashAct(keeps...))
			wantWorld(t, where+", the first ones", agreeing(t, where, w, crashAct(keeps[:impl.PmSize]...)), got)
			w = agreeing(t, where, w, stepsAct(1+d.roll(5)))
		}
	}
	begun := worldWith(t, smallWorld(t), startAct(writeOp("/f", 0, 5)), stepsAct(8))
	for _, keeps := range manyKeeps() {
		agreeing(t, fmt.Sprint(len(keeps), " keeps"), begun, crashAct(keeps...))
		_, codes := wantActsRun(t, fmt.Sprint(len(keeps), " keeps"), []impl.Act{crashAct(keeps...)})
		if !slices.Equal(codes, []int{impl.OK}) {
			t.Errorf("a run of a crash of %d keeps has the codes %v", len(keeps), codes)
		}
	}
	for _, keeps := range manyWrongKeeps() {
		if _, code := acted(t, fmt.Sprint(len(keeps), " keeps"), begun, crashAct(keeps...)); code != impl.ErrRange {
			t.Errorf("a crash of %d keeps, one of which is wrong, has the code %d", len(keeps), code)
		}
		if _, codes := wantActsRun(t, fmt.Sprint(len(keeps), " keeps"), []impl.Act{crashAct(keeps...)}); !slices.Equal(codes, []int{impl.ErrRange}) {
			t.Errorf("a run of a crash of %d keeps, one of which is wrong, has the codes %v", len(keeps), codes)
		}
	}
}

func TestP15CrashUponCrash(t *testing.T) {
	d := &dice{state: 151}
	for _, x := range begunWorlds(t) {
		w := x.world
		for n := 0; len(w.Fs.Todo) > 0; n++ {
			where := fmt.Sprint(x.name, ", ", n, " steps")
			first := agreeing(t, where, w, crashAct(rollKeeps(d)...))
			for _, keeps := range [][]int{nil, {400}, rollKeeps(d)} {
				wantWorld(t, where+", once more", agreeing(t, where, first, crashAct(keeps...)), first)
			}
			w = agreeing(t, where, w, stepsAct(1+d.roll(3)))
		}
	}
}

// What an act leaves is what a crash finds: done and undone one behind the other, by hand.
func TestP15DoneAndUndone(t *testing.T) {
	w := worldWith(t, impl.NewWorld(), opAct(makeOp("/a")), opAct(writeOp("/a", 0, 5)))
	for _, c := range []struct {
		steps int
		keeps []int
		want  string
	}{
		{0, []int{400}, "/a file 1: 5"},
		{3, []int{400}, "/a file 1: 5"},
		{7, []int{400}, "/a file 1: 5"},
		{8, []int{0}, "/a file 1: 5"},
		{8, []int{1}, "/a file 1: 6"},
		{9, nil, "/a file 1: 5"},
		{9, []int{0, 1}, "/a file 1: 5"},
		{9, []int{400}, "/a file 1: 6"},
		{10, nil, "/a file 1: 6"},
		{15, []int{0}, "/a file 1: 6"},
	} {
		begun := worldWith(t, w, startAct(writeOp("/a", 0, 6)), stepsAct(c.steps))
		got := agreeing(t, "crashed", begun, crashAct(c.keeps...))
		wantText(t, fmt.Sprint(c.steps, " steps, keeps ", c.keeps), got.Model, c.want)
		wantAnswers(t, "no answer of what was in the midst", got, impl.Answer{}, impl.Answer{})
		read := agreeing(t, "read", got, opAct(readOp("/a", 0)))
		if a := read.Answers[2]; fmt.Sprint("/a file 1: ", a.Value) != c.want {
			t.Errorf("%d steps, keeps %v: a read answers %v", c.steps, c.keeps, a)
		}
	}
}

// mixed are the same operations with moves, decays, steps and crashes at rest among them.
func mixed(t *testing.T, d *dice, where string, w impl.World, o impl.Op) impl.World {
	t.Helper()
	for range d.roll(3) {
		w, _ = acted(t, where, w, moveAct(d.roll(2) == 0))
		w = agreeing(t, where, w, stepsAct(d.roll(7)))
		if d.roll(4) == 0 {
			w = agreeing(t, where, w, crashAct(rollKeeps(d)...))
		}
		w = agreeing(t, where, w, finishAct())
		if d.roll(3) == 0 {
			w = agreeing(t, where, w, decayAct())
		}
	}
	if d.roll(2) == 0 {
		return agreeing(t, where, w, opAct(o))
	}
	w = agreeing(t, where, w, startAct(o))
	for len(w.Fs.Todo) > 0 {
		w = agreeing(t, where, w, stepsAct(1+d.roll(9)))
	}
	return w
}

// The theorem of tiers: with moves between and without, operations have the same answers and leave the same files.
func TestP15TieringIsNotSeen(t *testing.T) {
	d := &dice{state: 152}
	moved := 0
	for run := range 16 {
		plain := rolledWorld(t, d, run)
		tiered := plain
		for step := range 60 {
			where := fmt.Sprint("run ", run, ", step ", step)
			o := rollOpOf(d, plain.Fs)
			plain = agreeing(t, where, plain, opAct(o))
			tiered = mixed(t, d, where, tiered, o)
			if !slices.EqualFunc(plain.Answers, tiered.Answers, sameAnswer) || !identical(plain.Model, tiered.Model) {
				t.Fatalf("%s: %+v: with moves the answers are %v, not %v, or the model is another one", where, o, tiered.Answers, plain.Answers)
			}
			if !sameImage(imageByHand(t, where, plain.Fs.Devices), imageByHand(t, where, tiered.Fs.Devices)) {
				moved++
			}
		}
		wantContents(t, "tiered", tiered.Fs.Devices, pathsByHand(imageByHand(t, "plain", plain.Fs.Devices)), contentsByHand(imageByHand(t, "plain", plain.Fs.Devices), plain.Fs.Devices))
	}
	if moved < 300 {
		t.Errorf("only %d times pages stood elsewhere", moved)
	}
}

// A write that is told that it is full is none that the model does: it is answered, and the world agrees on.
func TestP15FullWrites(t *testing.T) {
	full := impl.Answer{Code: impl.ErrFull}
	w := worldOf(t, "full", resting(fullImage()))
	for _, a := range []impl.Act{opAct(writeOp("/a", 0, 9)), startAct(writeOp("/b", 7, 9))} {
		got := agreeing(t, "full", w, a)
		wantAnswers(t, "full", got, full)
		if !got.Agree || !identical(got.Model, w.Model) || !sameFs(got.Fs, w.Fs) || got.Doing != (impl.Op{}) {
			t.Errorf("%+v: agree %v, or the model or the file system is another one", a, got.Agree)
		}
		if _, b := modelDo(t, "full", w.Model, a.Op); b.Code != impl.OK {
			t.Errorf("%+v: the model has no room", a)
		}
	}
	// What is wrong about a write is told by both; so is that no inode or entry is free.
	got := worldWith(t, w, opAct(writeOp("/a", 8, 9)), opAct(writeOp("/a", 0, 9)), opAct(makeOp("/new")), opAct(linkOp("/a", "/new")), opAct(readOp("/a", 0)))
	wantAnswers(t, "codes", got, impl.Answer{Code: impl.ErrRange}, full, full, full, impl.Answer{Value: 1312})
	got = worldWith(t, got, opAct(cutOp("/b", 0)), opAct(writeOp("/a", 0, 9)), opAct(readOp("/a", 0)))
	wantAnswers(t, "room again", impl.World{Answers: got.Answers[5:]}, impl.Answer{}, impl.Answer{}, impl.Answer{Value: 9})
	// A crash in an operation behind it leaves it done or not, as ever.
	begun := worldWith(t, got, startAct(removeOp("/c")), stepsAct(9))
	agreeing(t, "crashed", begun, crashAct())
}

// From a new world it takes 63 acts until both tiers are full: one more write is told so, and all agrees.
func TestP15FilledUp(t *testing.T) {
	var acts []impl.Act
	for n := range 56 {
		path := "/" + nameOf(1+n/8)
		if n%8 == 0 {
			acts = append(acts, opAct(makeOp(path)))
		}
		acts = append(acts, opAct(writeOp(path, n%8, 100+n)))
	}
	more := []impl.Act{opAct(writeOp("/a", 0, 5)), opAct(readOp("/a", 0)), demoteAct(), promoteAct(), crashAct(400), opAct(writeOp("/a", 7, 5)), opAct(cutOp("/b", 7)), opAct(writeOp("/a", 0, 6)), opAct(readOp("/a", 0))}
	w, codes, code := impl.WorldRun(append(acts, more...))
	wantCodes := make([]int, len(acts)+len(more))
	wantCodes[len(acts)+2], wantCodes[len(acts)+3] = impl.ErrFull, impl.ErrFull
	if code != impl.OK || !slices.Equal(codes, wantCodes) {
		t.Fatalf("WorldRun has the code %d and the codes %v", code, codes)
	}
	full := impl.Answer{Code: impl.ErrFull}
	wantAnswers(t, "filled up", impl.World{Answers: w.Answers[len(acts):]}, full, impl.Answer{Value: 100}, full, impl.Answer{}, impl.Answer{}, impl.Answer{Value: 6})
	wantAgrees(t, "filled up", w, true)
}

// An answer of the file system that is another one than the model's ends the agreement; of all codes ErrFull of a write alone does not.
func TestP15AnswersThatDiffer(t *testing.T) {
	small := smallWorld(t)
	names := []string{"d", "f", "zzzzzz"}
	for _, c := range []struct {
		op    impl.Op
		told  impl.Answer
		agree bool
	}{
		{readOp("/f", 0), impl.Answer{Value: 1312}, true},
		{readOp("/f", 0), impl.Answer{Value: 1313}, false},
		{readOp("/f", 0), impl.Answer{}, false},
		{readOp("/f", 0), impl.Answer{Code: impl.ErrRange}, false},
		{readOp("/f", 0), impl.Answer{Code: impl.ErrFull}, false},
		{readOp("/f", 0), impl.Answer{Value: 1312, Code: impl.ErrNone}, false},
		{readOp("/f", 0), impl.Answer{Value: 1312, Names: []string{"f"}}, false},
		{readOp("/f", 0), impl.Answer{Value: 1312, Names: []string{}}, true},
		{readOp("/f", 3), impl.Answer{Code: impl.ErrRange}, true},
		{readOp("/f", 3), impl.Answer{Code: impl.ErrNone}, false},
		{statOp("/f"), impl.Answer{Value: 132}, true},
		{statOp("/f"), impl.Answer{Value: 131}, false},
		{listOp("/"), impl.Answer{Names: names}, true},
		{listOp("/"), impl.Answer{Names: names[:2]}, false},
		{listOp("/"), impl.Answer{Names: []string{"f", "d", "zzzzzz"}}, false},
		{listOp("/"), impl.Answer{}, false},
		{listOp("/d/d/aaaaaa"), impl.Answer{Names: []string{}}, true},
		{makeOp("/f"), impl.Answer{Code: impl.ErrTwice}, true},
		{makeOp("/f"), impl.Answer{}, false},
		{makeOp("/new"), impl.Answer{Code: impl.ErrFull}, false},
		{linkOp("/f", "/new"), impl.Answer{Code: impl.ErrFull}, false},
		{writeOp("/f", 0, 5), impl.Answer{Code: impl.ErrFull}, true},
		{writeOp("/nobody", 0, 5), impl.Answer{Code: impl.ErrFull}, true},
		{writeOp("/f", 0, 5), impl.Answer{Code: impl.ErrMany}, false},
		{writeOp("/f", 0, 5), impl.Answer{Value: 5}, false},
		{writeOp("/f", 8, 5), impl.Answer{}, false},
		{cutOp("/f", 9), impl.Answer{Code: impl.ErrFull}, false},
	} {
		w := small
		w.Fs.Fresh, w.Fs.Answer, w.Doing = true, c.told, c.op
		for _, a := range []impl.Act{finishAct(), stepsAct(0)} {
			where := fmt.Sprintf("%+v, answered %v", c.op, c.told)
			got := act(t, where, w, a)
			wantAnswers(t, where, got, c.told)
			if got.Agree != c.agree || got.Doing != (impl.Op{}) {
				t.Errorf("%s: agree is %v", where, got.Agree)
			}
			// It does not begin again.
			got = act(t, where, got, opAct(readOp("/f", 1)))
			if got.Agree != c.agree {
				t.Errorf("%s: agree is %v one answer later", where, got.Agree)
			}
		}
	}
}

// A world whose model has other files: what is asked of them tells it, or a crash does.
func TestP15OtherModelInAWorld(t *testing.T) {
	w := smallWorld(t)
	w.Model = impl.NewModel()
	wantAgrees(t, "other files", w, false)
	for _, c := range []struct {
		act   impl.Act
		agree bool
	}{
		{opAct(readOp("/f", 0)), false}, {opAct(listOp("/")), false}, {opAct(statOp("/")), true}, {opAct(statOp("/nobody")), true}, {opAct(makeOp("/new")), true}, {opAct(makeOp("/f")), false},
		{opAct(writeOp("/f", 0, 5)), false}, {startAct(makeOp("/new")), true}, {stepsAct(3), true}, {finishAct(), true}, {demoteAct(), true}, {promoteAct(), true}, {decayAct(), true}, {crashAct(), false},
	} {
		got := act(t, "other files", w, c.act)
		if got.Agree != c.agree {
			t.Errorf("%+v: agree is %v", c.act, got.Agree)
		}
		// In the midst of steps the files are not asked.
		wantAgrees(t, "other files", got, c.agree && len(got.Fs.Todo) > 0)
	}
	// The same files, whatever stands where: it agrees.
	d := &dice{state: 153}
	other := smallWorld(t)
	other.Model = moved(d, other.Model)
	wantAgrees(t, "elsewhere", other, true)
	for _, a := range []impl.Act{crashAct(), opAct(removeOp("/f")), opAct(makeOp("/new")), opAct(writeOp("/zzzzzz", 5, 6)), opAct(listOp("/d")), opAct(renameOp("/d", "/new"))} {
		agreeing(t, "elsewhere", other, a)
	}
	begun := worldWith(t, other, startAct(makeOp("/new")), stepsAct(26))
	if got := agreeing(t, "elsewhere", begun, crashAct(400)); !sameLines(got.Model, thereByHand(t, "elsewhere", got.Fs.Devices)) || identical(got.Model, thereByHand(t, "elsewhere", got.Fs.Devices)) {
		t.Error("behind a crash the model is that of what is there, and not its own behind the operation")
	}
}

// What is there is neither the model nor the model behind what was in the midst: the model stays, and the agreement ends.
func TestP15CrashesThatEndTheAgreement(t *testing.T) {
	small := smallWorld(t)
	begun := act(t, "begun", small, startAct(makeOp("/new")))
	done := act(t, "done", begun, stepsAct(len(begun.Fs.Todo)-1))
	other := modelDoing(t, small.Model, writeOp("/f", 0, 9))
	for _, c := range []struct {
		name  string
		world impl.World
		model impl.Model
		agree bool
		want  impl.Model
	}{
		{"undone", begun, small.Model, true, small.Model},
		{"done", done, small.Model, true, modelDoing(t, small.Model, makeOp("/new"))},
		{"undone, another page", begun, other, false, other},
		{"done, another page", done, other, false, other},
		{"undone, already in the model", begun, modelDoing(t, small.Model, makeOp("/new")), false, modelDoing(t, small.Model, makeOp("/new"))},
		{"done, already in the model", done, modelDoing(t, small.Model, makeOp("/new")), true, modelDoing(t, small.Model, makeOp("/new"))},
	} {
		w := c.world
		w.Model = c.model
		got := act(t, c.name, w, crashAct())
		if got.Agree != c.agree || !identical(got.Model, c.want) || got.Doing != (impl.Op{}) || !sameFs(got.Fs, recovered(t, c.name, w.Fs, nil)) {
			t.Errorf("%s: agree is %v, or the model or the file system is another one", c.name, got.Agree)
		}
		w.Agree = false
		if got := act(t, c.name, w, crashAct()); got.Agree || !identical(got.Model, c.want) {
			t.Errorf("%s: without agreement there is one behind a crash, or the model is another one", c.name)
		}
	}
}

func modelDoing(t *testing.T, m impl.Model, list ...impl.Op) impl.Model {
	t.Helper()
	for _, o := range list {
		m, _ = modelDo(t, "modelDoing", m, o)
	}
	return m
}

// What can't be recovered ends the agreement, and nothing else is changed.
func TestP15CrashesWithoutRecovery(t *testing.T) {
	small := smallWorld(t)
	for _, x := range formless() {
		for _, fresh := range []bool{false, true} {
			w := withAnswers(small, 2)
			w.Fs = x.fs
			if fresh {
				w.Fs.Fresh, w.Fs.Answer, w.Doing = true, impl.Answer{Names: []string{"a"}}, makeOp("/new")
			}
			if !impl.WorldOK(w) {
				t.Fatalf("%s: the world is not right", x.name)
			}
			want := cloneWorld(w)
			want.Agree = false
			wantWorld(t, x.name, act(t, x.name, w, crashAct()), want)
			wantWorld(t, x.name+", twice", act(t, x.name, want, crashAct(400)), want)
			wantAsItWas(t, x.name, worldDoCall(w, crashAct(-1)), impl.ErrRange)
		}
	}
}

// Steps that no plan made are done too; what is not right behind them is told by the next call.
func TestP15WorldsWithAnySteps(t *testing.T) {
	for _, x := range busySystems() {
		w := smallWorld(t)
		w.Fs = x.fs
		if x.fs.Fresh {
			w.Doing = listOp("/d/d/aaaaaa")
		}
		for _, a := range []impl.Act{stepsAct(0), stepsAct(1), stepsAct(mostTodo), finishAct(), decayAct(), crashAct(), crashAct(400)} {
			got, code := acted(t, x.name, w, a)
			if code != impl.OK || impl.WorldOK(got) != (impl.FsOK(got.Fs) && isWorldByHand(got)) {
				t.Fatalf("%s: %+v has the code %d", x.name, a, code)
			}
		}
	}
	w := smallWorld(t)
	w.Fs.Todo, w.Fs.Fresh, w.Doing = []impl.Micro{storeStep(20, 5)}, true, statOp("/")
	got, code := acted(t, "a store that stays", w, finishAct())
	if code != impl.OK || impl.WorldOK(got) || len(got.Answers) > 0 || !got.Fs.Fresh {
		t.Errorf("behind a store that stays the code is %d, or an answer was taken", code)
	}
	wantCode(t, "the next call", worldDoCall(got, decayAct()), impl.ErrBad)
	wantCode(t, "the next call", worldAgreesCall(got), impl.ErrBad)
}

func TestP15AgreementIsAsked(t *testing.T) {
	small := smallWorld(t)
	for _, x := range rightWorlds(t) {
		want := x.world.Agree && (len(x.world.Fs.Todo) > 0 || sameLines(x.world.Model, thereByHand(t, x.name, x.world.Fs.Devices)))
		wantAgrees(t, x.name, x.world, want)
		wantAgrees(t, x.name+", it does not", changedWorld("", x.world, func(w *impl.World) { w.Agree = false }).world, false)
	}
	for _, x := range rightModels() {
		w := small
		w.Model = x.model
		wantAgrees(t, x.name, w, sameLines(x.model, small.Model))
		w.Fs.Todo = fences(1)
		wantAgrees(t, x.name+", a step", w, true)
	}
}

// The 80th answer is taken, and none behind it: neither does another operation begin, nor is one taken that waits.
func TestP15MostAnswers(t *testing.T) {
	small := smallWorld(t)
	for _, o := range []impl.Op{listOp("/"), makeOp("/new"), makeOp("/f"), writeOp("/f", 0, 5)} {
		for _, ahead := range []int{mostAnswers - 2, mostAnswers - 1} {
			w := withAnswers(small, ahead)
			for _, acts := range [][]impl.Act{{opAct(o)}, {startAct(o), finishAct()}, {startAct(o), stepsAct(mostTodo)}} {
				if got := worldWith(t, w, acts...); len(got.Answers) != ahead+1 {
					t.Errorf("%+v: behind %d answers there are %d", o, ahead, len(got.Answers))
				}
			}
		}
		most := withAnswers(small, mostAnswers)
		for _, a := range []impl.Act{opAct(o), startAct(o)} {
			wantAsItWas(t, "80 answers", worldDoCall(most, a), impl.ErrMany)
		}
		// One that was begun by hand waits on; a crash loses it.
		for _, w := range []impl.World{waitingWorld(t, most, o), changedWorld("", most, func(w *impl.World) { w.Fs, w.Doing = startOp(t, "begun", w.Fs, o), o }).world} {
			for _, a := range []impl.Act{stepsAct(0), stepsAct(mostTodo), finishAct()} {
				got := act(t, "80 answers, and one that waits", w, a)
				if len(got.Answers) != mostAnswers || !got.Fs.Fresh || got.Doing != o || !identical(got.Model, w.Model) || !got.Agree {
					t.Errorf("%+v: there are %d answers, doing %+v", a, len(got.Answers), got.Doing)
				}
				lost := agreeing(t, "crashed", got, crashAct())
				if len(lost.Answers) != mostAnswers || lost.Fs.Fresh {
					t.Errorf("%+v: behind a crash there are %d answers", a, len(lost.Answers))
				}
			}
		}
	}
	most := withAnswers(small, mostAnswers)
	for _, a := range []impl.Act{stepsAct(5), finishAct(), demoteAct(), promoteAct(), decayAct(), crashAct()} {
		agreeing(t, "80 answers", most, a)
	}
}

func wantActsRun(t *testing.T, where string, acts []impl.Act) (impl.World, []int) {
	t.Helper()
	w, codes, code := impl.WorldRun(acts)
	if code != impl.OK || len(codes) != len(acts) {
		t.Fatalf("%s: WorldRun has the code %d, and %d codes", where, code, len(codes))
	}
	want := impl.NewWorld()
	for k, a := range acts {
		after, wanted := acted(t, where, want, a)
		if codes[k] != wanted {
			t.Fatalf("%s: act %d has the code %d, not %d", where, k, codes[k], wanted)
		}
		want = after
	}
	wantWorld(t, where, w, want)
	wantAgrees(t, where, w, true)
	return w, codes
}

func TestP15Runs(t *testing.T) {
	for _, none := range [][]impl.Act{nil, {}} {
		w, codes := wantActsRun(t, "none", none)
		wantWorld(t, "none", w, impl.NewWorld())
		if len(codes) > 0 {
			t.Errorf("none have the codes %v", codes)
		}
	}
	for _, a := range append(actsOfEachKind(), impl.Act{}, impl.Act{Kind: 9}) {
		wantActsRun(t, "one", []impl.Act{a})
	}
	// Acts that are refused are passed over.
	w, codes := wantActsRun(t, "refused", []impl.Act{
		opAct(makeOp("/a")), {}, startAct(writeOp("/a", 0, 5)), opAct(listOp("/")), stepsAct(201), demoteAct(), crashAct(401), opAct(impl.Op{}), {Kind: 9}, finishAct(), promoteAct(), crashAct(manyWrongKeeps()[0]...), crashAct(manyKeeps()[0]...), opAct(readOp("/a", 0)),
	})
	if want := []int{0, impl.ErrForm, 0, impl.ErrBusy, impl.ErrRange, impl.ErrBusy, impl.ErrRange, impl.ErrBad, impl.ErrForm, 0, impl.ErrNone, impl.ErrRange, 0, 0}; !slices.Equal(codes, want) {
		t.Errorf("the codes are %v, not %v", codes, want)
	}
	wantAnswers(t, "refused", w, impl.Answer{}, impl.Answer{}, impl.Answer{Value: 5})
	for _, n := range []int{2, mostActs - 1, mostActs} {
		w, _ := wantActsRun(t, fmt.Sprint(n, " operations"), slices.Repeat([]impl.Act{opAct(statOp("/"))}, n))
		if len(w.Answers) != n {
			t.Errorf("%d operations have %d answers", n, len(w.Answers))
		}
		w, codes := wantActsRun(t, fmt.Sprint(n, " acts that are none"), make([]impl.Act, n))
		if !slices.Equal(codes, slices.Repeat([]int{impl.ErrForm}, n)) || !sameWorld(w, impl.NewWorld()) {
			t.Errorf("%d acts that are none have the codes %v", n, codes)
		}
	}
}

// Rolled acts of all kinds: behind each of them the world agrees with its model.
func TestP15RolledActs(t *testing.T) {
	d := &dice{state: 154}
	count := map[string]int{}
	for run := range 80 {
		w := rolledWorld(t, d, run)
		for step := 0; step < 150 && len(w.Answers) < mostAnswers; step++ {
			where := fmt.Sprint("run ", run, ", act ", step)
			a := rollAct(d, w)
			after, code := acted(t, where, w, a)
			if !impl.WorldOK(after) || !after.Agree {
				t.Fatalf("%s: behind %+v the world is not right, or agree is %v", where, a, after.Agree)
			}
			wantAgrees(t, where, after, true)
			count[fmt.Sprint("kind ", a.Kind, ", code ", code)]++
			count[whatCrashed(w, after, a, code)]++
			if n := len(after.Answers); n > len(w.Answers) && after.Answers[n-1].Code == impl.ErrFull {
				count["full"]++
			}
			w = after
		}
	}
	for _, name := range []string{
		"kind 1, code 0", "kind 1, code 1", "kind 1, code 15", "kind 2, code 0", "kind 2, code 1", "kind 2, code 15", "kind 3, code 0", "kind 3, code 4", "kind 4, code 0",
		"kind 5, code 0", "kind 5, code 5", "kind 5, code 7", "kind 5, code 15", "kind 6, code 0", "kind 6, code 5", "kind 6, code 7", "kind 6, code 15", "kind 7, code 0", "kind 8, code 0", "kind 8, code 4", "kind 9, code 3",
		"a crash at rest", "a crash in a move", "a crash, done", "a crash, undone", "full",
	} {
		if count[name] < 10 {
			t.Errorf("%q came only %d times: %v", name, count[name], count)
		}
	}
}

// whatCrashed tells crashes apart by what they crashed into.
func whatCrashed(w, after impl.World, a impl.Act, code int) string {
	switch {
	case a.Kind != impl.AcCrash || code != impl.OK:
		return "no crash"
	case len(w.Fs.Todo) == 0:
		return "a crash at rest"
	case !w.Fs.Fresh:
		return "a crash in a move"
	case identical(w.Model, after.Model):
		return "a crash, undone"
	}
	return "a crash, done"
}

func TestP15RolledRuns(t *testing.T) {
	d := &dice{state: 155}
	for run := range 30 {
		w := impl.NewWorld()
		var acts []impl.Act
		for range d.roll(mostActs + 1) {
			a := rollAct(d, w)
			acts = append(acts, a)
			w, _ = impl.WorldDo(w, a)
		}
		got, _ := wantActsRun(t, fmt.Sprint("run ", run), acts)
		wantWorld(t, fmt.Sprint("run ", run), got, w)
	}
}

// What an act's kind has no use for says nothing.
func TestP15WhatActsHaveNoUseFor(t *testing.T) {
	for _, x := range worldHosts(t) {
		for _, a := range actsOfEachKind() {
			b := a
			if a.Kind != impl.AcOp && a.Kind != impl.AcStart {
				b.Op = makeOp("/new")
			}
			if a.Kind != impl.AcSteps {
				b.N = math.MinInt
			}
			if a.Kind != impl.AcCrash {
				b.Keeps = []int{-1}
			}
			want, wanted := acted(t, x.name, x.world, a)
			got, code := acted(t, x.name, x.world, b)
			if code != wanted {
				t.Errorf("%s: %+v has the code %d, not %d", x.name, b, code, wanted)
			}
			wantWorld(t, x.name, got, want)
		}
	}
}
