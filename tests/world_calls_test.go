package tests

import (
	"fmt"
	"math"
	"slices"
	"strings"
	"testing"

	"loop.example/g00410/impl"
)

// refusedActs have a fault by themselves, whatever the world is.
func refusedActs() []impl.Act {
	list := []impl.Act{{}, {Kind: 9}, {Kind: 9, N: -1, Op: makeOp("/new"), Keeps: []int{-1}}}
	for _, kind := range noIndexes(impl.AcCrash) {
		list = append(list, impl.Act{Kind: kind})
	}
	for _, n := range append(noIndexes(mostTodo), mostTodo+1) {
		list = append(list, stepsAct(n))
	}
	for _, keeps := range slices.Concat(wrongKeeps(), manyWrongKeeps()) {
		list = append(list, crashAct(keeps...))
	}
	for _, o := range noOps() {
		list = append(list, opAct(o), startAct(o))
	}
	return list
}

func TestP1RightWorlds(t *testing.T) {
	for _, x := range rightWorlds(t) {
		if !impl.WorldOK(x.world) || !isWorldByHand(x.world) {
			t.Errorf("%s: WorldOK is false", x.name)
		}
		wantCode(t, x.name, worldAgreesCall(x.world), impl.OK)
		for _, a := range []impl.Act{decayAct(), stepsAct(0), stepsAct(1), finishAct(), crashAct()} {
			wantCode(t, x.name, worldDoCall(x.world, a), impl.OK)
		}
	}
}

// That a world is not right is told ahead of all that is wrong about an act, and nothing of it is answered.
func TestP1WrongWorlds(t *testing.T) {
	acts := append(actsOfEachKind(), impl.Act{}, impl.Act{Kind: 9}, stepsAct(-1), stepsAct(mostTodo+1), crashAct(-1), crashAct(manyKeeps()[0]...), crashAct(manyWrongKeeps()[0]...), opAct(impl.Op{}), startAct(noOps()[2]))
	for _, x := range wrongWorlds(t, 9) {
		if impl.WorldOK(x.world) {
			t.Errorf("%s: WorldOK is true", x.name)
		}
		wantCode(t, x.name, worldAgreesCall(x.world), impl.ErrBad)
		for _, a := range acts {
			wantCode(t, x.name, worldDoCall(x.world, a), impl.ErrBad)
		}
	}
	// All that is wrong about acts, with a world that is wrong in each part.
	small := smallWorld(t)
	for _, x := range []namedWorld{
		changedWorld("the heat", small, func(w *impl.World) { w.Fs.Heat[0] = 65 }),
		changedWorld("the model", small, func(w *impl.World) { w.Model.Things[1].Links++ }),
		changedWorld("doing", small, func(w *impl.World) { w.Doing = listOp("/") }),
		changedWorld("answers", withAnswers(small, mostAnswers+1), func(w *impl.World) {}),
	} {
		for _, a := range refusedActs() {
			wantCode(t, x.name, worldDoCall(x.world, a), impl.ErrBad)
		}
	}
}

// All file systems and all models that are not right make a world that is not.
func TestP1PartsOfWrongWorlds(t *testing.T) {
	for _, x := range wrongWorlds(t, 1) {
		if impl.WorldOK(x.world) {
			t.Errorf("%s: WorldOK is true", x.name)
		}
	}
	// With one thing mended they are right.
	small := smallWorld(t)
	waiting := waitingWorld(t, small, listOp("/"))
	for _, x := range []struct {
		namedWorld
		want bool
	}{
		{changedWorld("an operation waits", waiting, func(w *impl.World) {}), true},
		{changedWorld("another one waits", waiting, func(w *impl.World) { w.Doing = writeOp("x", -1, -1) }), true},
		{changedWorld("one without a kind waits", waiting, func(w *impl.World) { w.Doing.Kind = 0 }), false},
		{changedWorld("one of no use waits", waiting, func(w *impl.World) { w.Doing.Page = 1 }), false},
		{changedWorld("80 answers", withAnswers(waiting, 80), func(w *impl.World) {}), true},
		{changedWorld("81 answers", withAnswers(waiting, 81), func(w *impl.World) {}), false},
		{changedWorld("a text as long as it may be", waiting, func(w *impl.World) { w.Doing.Path = strings.Repeat("a", impl.MaxText) }), true},
		{changedWorld("a text that is too long", waiting, func(w *impl.World) { w.Doing.Path = strings.Repeat("a", impl.MaxText+1) }), false},
		{changedWorld("an answer that is none", waiting, func(w *impl.World) { w.Fs.Answer = impl.Answer{Code: -1, Value: math.MinInt} }), true},
		{changedWorld("answers that are none", small, func(w *impl.World) { w.Answers = []impl.Answer{{Code: 99, Names: make([]string, impl.MaxList+1)}} }), true},
	} {
		if got := impl.WorldOK(x.world); got != x.want || isWorldByHand(x.world) != x.want {
			t.Errorf("%s: WorldOK is %v", x.name, got)
		}
	}
}

// An act that is refused by itself leaves the world as it was, whatever is to be done or waits.
func TestP1RefusedActs(t *testing.T) {
	for _, x := range worldHosts(t) {
		for _, a := range refusedActs() {
			where := fmt.Sprintf("%s, %.60s", x.name, fmt.Sprintf("%+v", a))
			want := impl.ErrForm
			switch a.Kind {
			case impl.AcOp, impl.AcStart:
				want = impl.ErrBad
			case impl.AcSteps, impl.AcCrash:
				want = impl.ErrRange
			}
			wantAsItWas(t, where, worldDoCall(x.world, a), want)
		}
		for _, keeps := range slices.Concat(rightKeeps(), manyKeeps()) {
			wantCode(t, x.name, worldDoCall(x.world, crashAct(keeps...)), impl.OK)
		}
	}
	// Texts as long as they may be are taken: the answer tells what is wrong about them.
	small := smallWorld(t)
	most := strings.Repeat("a", impl.MaxText)
	for _, o := range []impl.Op{statOp(most), makeOp(most), linkOp("/f", most), renameOp(most, most)} {
		for _, a := range []impl.Act{opAct(o), startAct(o)} {
			got, code := impl.WorldDo(small, a)
			if code != impl.OK || len(got.Answers) != 1 || got.Answers[0].Code != impl.ErrName || !got.Agree {
				t.Errorf("a text of MaxText bytes has the code %d and the answers %v", code, got.Answers)
			}
		}
	}
}

// Texts that are no paths are told by the file system and by its model alike.
func TestP1NoPathsInAWorld(t *testing.T) {
	small := smallWorld(t)
	for _, text := range noPaths() {
		for _, o := range []impl.Op{makeOp(text), removeOp(text), linkOp("/f", text), renameOp("/f", text), writeOp(text, 0, 5), cutOp(text, 9), readOp(text, 0), statOp(text), listOp(text)} {
			got, code := impl.WorldDo(small, opAct(o))
			if code != impl.OK || len(got.Answers) != 1 || got.Answers[0].Code != impl.ErrName || !got.Agree || !identical(got.Model, small.Model) {
				t.Fatalf("%.60q has the code %d and the answers %v", fmt.Sprint(o), code, got.Answers)
			}
		}
	}
}

// Each two faults of an operation at once, and all three: it is none, there are as many answers as there may be, something is to be done or waits.
func TestP1CodesOfBeginning(t *testing.T) {
	for _, host := range worldHosts(t) {
		busy := len(host.world.Fs.Todo) > 0 || host.world.Fs.Fresh
		for _, answers := range []int{0, mostAnswers - 10, mostAnswers} {
			w := withAnswers(impl.World{Fs: host.world.Fs, Model: host.world.Model, Doing: host.world.Doing, Agree: true}, answers)
			for _, o := range append(noOps(), writeOp("/f", 0, 5), listOp("/"), makeOp("/f"), statOp("")) {
				code := impl.OK
				switch {
				case !isOpByHand(o):
					code = impl.ErrBad
				case answers == mostAnswers:
					code = impl.ErrMany
				case busy:
					code = impl.ErrBusy
				}
				for _, a := range []impl.Act{opAct(o), startAct(o)} {
					where := fmt.Sprintf("%s, %d answers, %.40q", host.name, answers, fmt.Sprint(o))
					if code == impl.OK {
						wantCode(t, where, worldDoCall(w, a), code)
					} else {
						wantAsItWas(t, where, worldDoCall(w, a), code)
					}
				}
			}
		}
	}
}

// Each two faults of a move at once: something to be done or an answer that waits, no page of the tier, no room in the other one.
func TestP1CodesOfMovesInAWorld(t *testing.T) {
	for _, x := range movingSystems() {
		w := worldOf(t, x.name, x.fs)
		begun := act(t, x.name, w, startAct(mkdirOp("/q")))
		hosts := []namedWorld{
			{"waiting", waitingWorld(t, w, listOp("/"))},
			changedWorld("a step", w, func(w *impl.World) { w.Fs.Todo = fences(1) }),
			changedWorld("80 answers and a step", withAnswers(w, mostAnswers), func(w *impl.World) { w.Fs.Todo = fences(1) }),
		}
		if len(begun.Fs.Todo) > 0 {
			hosts = append(hosts, namedWorld{"begun", begun})
		}
		for _, up := range []bool{false, true} {
			for _, host := range hosts {
				wantAsItWas(t, x.name+", "+host.name, worldDoCall(host.world, moveAct(up)), impl.ErrBusy)
			}
			code := x.down
			if up {
				code = x.up
			}
			for _, host := range []impl.World{w, withAnswers(w, mostAnswers)} {
				if code == impl.OK {
					wantCode(t, x.name, worldDoCall(host, moveAct(up)), code)
				} else {
					wantAsItWas(t, x.name, worldDoCall(host, moveAct(up)), code)
				}
			}
		}
	}
	// No page of the tier, and the other one has no room.
	wantAsItWas(t, "no page, no sector free", worldDoCall(worldOf(t, "", resting(filled(impl.TierBlk, impl.BlkSize))), demoteAct()), impl.ErrNone)
	wantAsItWas(t, "no sector, no page free", worldDoCall(worldOf(t, "", resting(filled(impl.TierPm, impl.Pages))), promoteAct()), impl.ErrNone)
}

// Too many acts, and among them such as are refused.
func TestP1CodesOfRuns(t *testing.T) {
	for _, a := range append(actsOfEachKind(), impl.Act{}, impl.Act{Kind: 9}, stepsAct(-1), crashAct(-1), opAct(impl.Op{})) {
		for _, n := range []int{mostActs + 1, mostActs + 2, 2 * mostActs, impl.MaxList - 1, impl.MaxList} {
			wantCode(t, fmt.Sprint(n, " acts"), worldRunCall(slices.Repeat([]impl.Act{a}, n)...), impl.ErrMany)
		}
		for _, n := range []int{impl.MaxList + 1, 3 * impl.MaxList} {
			wantCode(t, fmt.Sprint(n, " acts"), worldRunCall(slices.Repeat([]impl.Act{a}, n)...), impl.ErrLong)
		}
		for _, n := range []int{0, 1, mostActs - 1, mostActs} {
			wantCode(t, fmt.Sprint(n, " acts"), worldRunCall(slices.Repeat([]impl.Act{a}, n)...), impl.OK)
		}
	}
}

func TestP1WorldsUntouched(t *testing.T) {
	calls := []asked{ask("NewWorld", impl.NewWorld), worldRunCall()}
	for _, x := range rightWorlds(t) {
		calls = append(calls, ask("WorldOK", impl.WorldOK, x.world), worldAgreesCall(x.world))
		for _, a := range []impl.Act{opAct(listOp("/")), stepsAct(3), crashAct(1, 0)} {
			calls = append(calls, worldDoCall(x.world, a))
		}
	}
	for _, x := range wrongWorlds(t, 40) {
		calls = append(calls, ask("WorldOK", impl.WorldOK, x.world), worldAgreesCall(x.world), worldDoCall(x.world, opAct(listOp("/"))))
	}
	wantPromise1(t, "worlds", calls)
}

func TestP1ActsUntouched(t *testing.T) {
	var calls []asked
	for _, x := range worldHosts(t) {
		for _, a := range append(actsOfEachKind(), opAct(listOp("/d")), opAct(removeOp("/f")), impl.Act{}, stepsAct(-1), crashAct(1, -1), crashAct(manyKeeps()[2]...), opAct(impl.Op{})) {
			calls = append(calls, worldDoCall(x.world, a))
			// What a call answered is an argument like any other.
			if after, code := impl.WorldDo(x.world, a); code == impl.OK {
				calls = append(calls, worldDoCall(after, finishAct()), worldDoCall(after, opAct(listOp("/"))), worldAgreesCall(after))
			}
		}
	}
	acts := append(actsOfEachKind(), impl.Act{}, stepsAct(-1), crashAct(1, -1))
	calls = append(calls, worldRunCall(acts...), worldRunCall(slices.Repeat(acts, 5)...), worldRunCall(slices.Repeat(acts, 6)...), worldRunCall(make([]impl.Act, impl.MaxList+1)...))
	wantPromise1(t, "acts", calls)
}

// In the midst of steps, and behind crashes.
func TestP1WorldsInTheMidstUntouched(t *testing.T) {
	for k, x := range begunWorlds(t) {
		if k%4 > 0 {
			continue
		}
		w := x.world
		for len(w.Fs.Todo) > 0 {
			wantPromise1(t, x.name, []asked{worldDoCall(w, stepsAct(1)), worldDoCall(w, finishAct()), worldDoCall(w, crashAct(400)), worldDoCall(w, crashAct()), worldAgreesCall(w)})
			w = act(t, x.name, w, stepsAct(3))
		}
	}
}

// Worlds are done at the same time by others, too: what one is answered does not hang on them.
func TestP1WorldsSideBySide(t *testing.T) {
	small := smallWorld(t)
	acts := append(actsOfEachKind(), opAct(makeOp("/new")), impl.Act{})
	var want []impl.World
	for _, a := range acts {
		w, _ := impl.WorldDo(small, a)
		want = append(want, w)
	}
	run, codes, _ := impl.WorldRun(acts)
	told := make(chan string)
	for range 8 {
		go func() {
			fault := ""
			for k, a := range acts {
				if w, _ := impl.WorldDo(small, a); !sameWorld(w, want[k]) {
					fault = fmt.Sprintf("%+v has another world", a)
				}
				if w, list, code := impl.WorldRun(acts); code != impl.OK || !sameWorld(w, run) || !slices.Equal(list, codes) {
					fault = "WorldRun has another world"
				}
			}
			told <- fault
		}()
	}
	for range 8 {
		if fault := <-told; fault != "" {
			t.Error(fault)
		}
	}
}
