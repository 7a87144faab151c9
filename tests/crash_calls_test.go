package tests

import (
	"fmt"
	"slices"
	"testing"

	"loop.example/g00410/impl"
)

// crashCalls are both calls that crash a file system.
func crashCalls(f impl.Fs, keeps []int) []asked {
	return []asked{crashFsCall(f, keeps), crashTwiceCall(f, keeps, 3, nil), crashTwiceCall(f, nil, 3, keeps), crashTwiceCall(f, keeps, 0, keeps)}
}

// recoverCalls are both calls that look at what a crash left.
func recoverCalls(d impl.Devices) []asked {
	return []asked{recoverPlanCall(d), recoverCall(d)}
}

func noRecoverSteps() []int { return noIndexes(mostRecoverSteps) }

func rightKeeps() [][]int {
	return [][]int{nil, {}, {0}, {400}, {1, 1}, {0, 400, 0}, slices.Repeat([]int{400}, impl.MaxList), make([]int, impl.MaxList)}
}

// formless are file systems that are right, as something is to be done, but can't be recovered: the journal is in no form, or there is no right image.
func formless() []namedFs {
	var list []namedFs
	add := func(name string, d impl.Devices) {
		list = append(list, namedFs{name, impl.Fs{Devices: d, Heat: evenHeat(1), Todo: fences(1)}})
	}
	for _, x := range wrongJournals() {
		add(x.name, x.devices)
	}
	for _, x := range wrongBehind() {
		add(x.name, x.devices)
	}
	return list
}

// wrongJournals are devices on which all is sure, with a right image, and with a journal that is in no form.
func wrongJournals() []namedPair {
	var list []namedPair
	small := housed(smallImage())
	for _, n := range []int{mostUpdates + 1, 18, 1008, impl.MaxWord - 1} {
		d := notedOn(small, slices.Repeat([]impl.Update{{At: 312, Value: 5}}, mostUpdates)...)
		d.Pm.Words[8] = n
		list = append(list, namedPair{fmt.Sprint("a journal of ", n), d})
	}
	for _, at := range []int{0, 8, 9, 47, impl.PmSize, impl.PmSize + 1, impl.MaxWord - 1} {
		u, good := impl.Update{At: at, Value: 5}, impl.Update{At: 312, Value: 5}
		list = append(list,
			namedPair{fmt.Sprint("an update at ", at), notedOn(small, u)},
			namedPair{fmt.Sprint("an update at ", at, " first"), notedOn(small, u, good, good)},
			namedPair{fmt.Sprint("an update at ", at, " last"), notedOn(small, append(slices.Repeat([]impl.Update{good}, mostUpdates-1), u)...)},
		)
	}
	return list
}

// wrongBehind are devices on which all is sure, with a journal in its form, and without a right image behind the replay.
func wrongBehind() []namedPair {
	list := []namedPair{
		{"noughts", zeroPair()},
		{"a page, and no word 7", notedOn(housedWith(0, 8), impl.Update{At: 312, Value: 5})},
		{"spoiled by the journal", notedOn(housed(smallImage()), impl.Update{At: 62, Value: 3})},
		{"spoiled by the last of it", notedOn(housed(smallImage()), impl.Update{At: 312, Value: 5}, impl.Update{At: 48, Value: 1})},
		{"mended, and spoiled again", notedOn(housedWith(62, 3), impl.Update{At: 62, Value: 2}, impl.Update{At: 62, Value: 4})},
		{"a page, and an image that is not right", notedOn(housed(wronged(smallImage())), impl.Update{At: 312, Value: 5})},
	}
	for _, h := range wrongHosts() {
		d := h.devices
		if impl.DevicesOK(d) && len(d.Pm.Pending)+len(d.Blk.Pending) == 0 && d.Pm.Words[8] == 0 {
			list = append(list, namedPair{h.name, d})
		}
	}
	return list
}

// unsureParts are stores and writes that are not sure, whatever they store.
func unsureParts(d impl.Devices) []namedPair {
	return []namedPair{
		{"a store", unsure(d, []impl.Store{{At: 3, Value: 3}}, nil)},
		{"a flushed store", unsure(d, []impl.Store{{At: 335, Value: 3, Flushed: true}}, nil)},
		{"a store of what is there", unsure(d, []impl.Store{{At: 20, Value: d.Pm.Words[20]}}, nil)},
		{"a store of 0 at 0", unsure(d, []impl.Store{{}}, nil)},
		{"a write", unsure(d, nil, []impl.Sector{{At: 3, Value: 3}})},
		{"a write of 0 to sector 0", unsure(d, nil, []impl.Sector{{}})},
		{"a write of what is there", unsure(d, nil, []impl.Sector{{At: 31, Value: d.Blk.Sectors[31]}})},
		{"both", unsure(d, []impl.Store{{At: 3, Value: 3}}, []impl.Sector{{At: 3, Value: 3}})},
		{"as many as there may be", unsure(d, storesOf(mostStores, 20, 335), writesOf(mostStores, 3, 31))},
	}
}

func TestP1CrashesOfRightSystems(t *testing.T) {
	for _, x := range rightSystems() {
		for _, keeps := range rightKeeps() {
			wantCode(t, x.name, crashFsCall(x.fs, keeps), impl.OK)
		}
	}
	for _, x := range slices.Concat(restingSystems(), waitingSystems()) {
		wantCode(t, x.name, crashTwiceCall(x.fs, []int{400}, 5, []int{0}), impl.OK)
		wantCode(t, x.name, recoverPlanCall(x.fs.Devices), impl.OK)
		wantCode(t, x.name, recoverCall(x.fs.Devices), impl.OK)
	}
}

// That a file system is not right is told ahead of what is wrong with keeps, with steps, and with the journal.
func TestP1CrashesOfWrongSystems(t *testing.T) {
	for _, x := range wrongSystems() {
		for _, keeps := range [][]int{nil, {1}, {-1}, {401}, {1, 2, -1}} {
			for _, c := range crashCalls(x.fs, keeps) {
				wantCode(t, x.name, c, impl.ErrBad)
			}
		}
		for _, steps := range []int{-1, mostRecoverSteps + 1} {
			wantCode(t, x.name, crashTwiceCall(x.fs, nil, steps, nil), impl.ErrBad)
			wantCode(t, x.name, crashTwiceCall(x.fs, []int{-1}, steps, []int{401}), impl.ErrBad)
		}
	}
	for _, x := range formless() {
		x.fs.Heat = evenHeat(65)
		wantCode(t, x.name+", too hot", crashTwiceCall(x.fs, nil, 0, nil), impl.ErrBad)
	}
}

// Keeps that PmCrash and BlkCrash would not take, whether something would ask for them or not.
func TestP1CrashesWithWrongKeeps(t *testing.T) {
	systems := []namedFs{{"resting", resting(smallImage())}, {"unsure", unsureBothWays()}, {"a new one", impl.NewFs()}, formless()[0], busySystems()[1]}
	for _, x := range systems {
		for _, keeps := range wrongKeeps() {
			for _, c := range crashCalls(x.fs, keeps) {
				wantCode(t, x.name, c, impl.ErrRange)
			}
			for _, steps := range []int{-1, 0, mostRecoverSteps, mostRecoverSteps + 1} {
				wantCode(t, x.name, crashTwiceCall(x.fs, keeps, steps, []int{1}), impl.ErrRange)
				wantCode(t, x.name, crashTwiceCall(x.fs, []int{1}, steps, keeps), impl.ErrRange)
			}
		}
	}
}

// Too long is told ahead of all else, of either list.
func TestP1CrashesWithLongKeeps(t *testing.T) {
	systems := append(wrongSystems()[:3], formless()[0], namedFs{"resting", resting(smallImage())}, namedFs{"unsure", unsureBothWays()})
	for _, x := range systems {
		for _, keeps := range longKeeps() {
			for _, c := range crashCalls(x.fs, keeps) {
				wantCode(t, x.name, c, impl.ErrLong)
			}
			for _, steps := range []int{-1, 0, mostRecoverSteps + 1} {
				wantCode(t, x.name, crashTwiceCall(x.fs, keeps, steps, []int{-1}), impl.ErrLong)
				wantCode(t, x.name, crashTwiceCall(x.fs, []int{-1}, steps, keeps), impl.ErrLong)
			}
		}
	}
}

// Steps that are none are told ahead of a journal that is in no form, and of an image that is not right.
func TestP1StepsThatAreNone(t *testing.T) {
	systems := append(formless(), namedFs{"resting", resting(smallImage())}, namedFs{"unsure", unsureBothWays()}, namedFs{"a new one", impl.NewFs()})
	for _, x := range systems {
		for _, steps := range noRecoverSteps() {
			wantCode(t, fmt.Sprint(x.name, ", ", steps, " steps"), crashTwiceCall(x.fs, nil, steps, nil), impl.ErrRange)
		}
	}
	for _, keeps := range rightKeeps() {
		for _, steps := range []int{0, 1, 36, mostRecoverSteps} {
			wantCode(t, fmt.Sprint(steps, " steps"), crashTwiceCall(resting(smallImage()), keeps, steps, keeps), impl.OK)
		}
	}
}

// A crash asks neither for a journal nor for an image; what can't be recovered is told behind it.
func TestP1CrashesThatCannotBeRecovered(t *testing.T) {
	for _, x := range formless() {
		wantCode(t, x.name, crashFsCall(x.fs, nil), impl.OK)
		for _, steps := range []int{0, 1, 2, 3, mostRecoverSteps} {
			for _, again := range [][]int{nil, {1}, {400}} {
				wantCode(t, x.name, crashTwiceCall(x.fs, nil, steps, again), impl.ErrForm)
			}
		}
	}
	// What makes it so is a store that a crash may keep or not.
	for _, s := range []impl.Store{{At: 8, Value: 17}, {At: 0, Value: 8}, {At: 62, Value: 3}, {At: 8, Value: 1}} {
		f := resting(smallImage())
		f.Devices, f.Todo = unsure(f.Devices, []impl.Store{s}, nil), fences(1)
		wantCode(t, fmt.Sprint(s, " lost"), crashTwiceCall(f, nil, 0, nil), impl.OK)
		wantCode(t, fmt.Sprint(s, " lost, the second crash keeps"), crashTwiceCall(f, []int{0}, 5, []int{400}), impl.OK)
		wantCode(t, fmt.Sprint(s, " kept"), crashTwiceCall(f, []int{1}, 0, nil), impl.ErrForm)
		d, _ := impl.CrashFs(f, []int{1})
		wantCode(t, fmt.Sprint(s, " kept"), recoverCall(d), impl.ErrForm)
	}
}

// That devices are not right is told ahead of what is not sure, and of a journal that is in no form.
func TestP1RecoveriesOfWrongDevices(t *testing.T) {
	list := append(wrongPairs(), namedPair{"nothing", impl.Devices{}})
	for _, x := range wrongPairs() {
		list = append(list, namedPair{x.name + ", a store and a write", unsure(x.devices, []impl.Store{{At: 3}}, []impl.Sector{{At: 3}})})
	}
	for _, x := range append(wrongJournals(), wrongBehind()...) {
		d := x.devices
		d.Blk = impl.Blk{}
		list = append(list, namedPair{x.name + ", no block device", d})
		list = append(list, namedPair{x.name + ", a store at no place", unsure(x.devices, []impl.Store{{At: -1}}, nil)})
		list = append(list, namedPair{x.name + ", a write at no place", unsure(x.devices, nil, []impl.Sector{{At: 32}})})
	}
	for _, x := range list {
		for _, c := range recoverCalls(x.devices) {
			wantCode(t, x.name, c, impl.ErrBad)
		}
	}
}

// That something is not sure is told ahead of a journal that is in no form, and of an image that is not right.
func TestP1RecoveriesOfUnsureDevices(t *testing.T) {
	hosts := slices.Concat([]namedPair{{"small", housed(smallImage())}, {"a new one", impl.NewDevices()}}, wrongJournals(), wrongBehind()[:6])
	for _, h := range hosts {
		for _, x := range unsureParts(h.devices) {
			for _, c := range recoverCalls(x.devices) {
				wantCode(t, h.name+", "+x.name, c, impl.ErrBusy)
			}
		}
	}
}

func TestP1RecoveriesOfWrongJournals(t *testing.T) {
	for _, x := range wrongJournals() {
		for _, c := range recoverCalls(x.devices) {
			wantCode(t, x.name, c, impl.ErrForm)
		}
		// Also without a right image.
		x.devices.Pm.Words[0] = 8
		for _, c := range recoverCalls(x.devices) {
			wantCode(t, x.name+", no word 7", c, impl.ErrForm)
		}
	}
	// What stands behind the count is asked for nothing.
	d := notedOn(housed(smallImage()), impl.Update{At: 312, Value: 5}, impl.Update{At: 0, Value: 5})
	d.Pm.Words[8] = 1
	for _, c := range recoverCalls(d) {
		wantCode(t, "one of two", c, impl.OK)
	}
}

func TestP1RecoveriesOfWrongImages(t *testing.T) {
	for _, x := range wrongBehind() {
		wantCode(t, x.name, recoverPlanCall(x.devices), impl.OK)
		wantCode(t, x.name, recoverCall(x.devices), impl.ErrForm)
	}
}

func TestP1CrashesUntouched(t *testing.T) {
	var calls []asked
	systems := slices.Concat(rightSystems(), formless(), wrongSystems()[:40], []namedFs{{"unsure", unsureBothWays()}})
	for _, x := range systems {
		for _, keeps := range [][]int{nil, {1, 0, 400}, {2, -1}} {
			calls = append(calls, crashFsCall(x.fs, keeps), crashTwiceCall(x.fs, keeps, 4, []int{0, 1}))
		}
		calls = append(calls, recoverCalls(x.fs.Devices)...)
	}
	for _, j := range rightJournals() {
		calls = append(calls, recoverCalls(notedOn(housed(smallImage()), j.list...))...)
	}
	wantPromise1(t, "crashes", calls)
}

// In the midst of operations and moves, and with a journal that is replayed.
func TestP1CrashesInTheMidstUntouched(t *testing.T) {
	for _, x := range begun(t) {
		f := x.fs
		for n := 0; ; n++ {
			calls := []asked{crashFsCall(f, []int{1, 0}), crashTwiceCall(f, []int{400}, 4, []int{0, 1})}
			d := crashFs(t, x.name, f, []int{400})
			wantPromise1(t, fmt.Sprint(x.name, ", ", n, " steps"), append(calls, recoverCalls(d)...))
			if len(f.Todo) == 0 {
				break
			}
			f = stepFs(t, x.name, f)
		}
	}
}
