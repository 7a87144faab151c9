package tests

import (
	"math"
	"testing"

	"loop.example/g00410/impl"
)

const (
	mostUpdates = 16
	mostFlushes = 50
)

func storeStep(at, v int) impl.Micro { return impl.Micro{Kind: impl.MiStore, At: at, Value: v} }

func flushStep(at int) impl.Micro { return impl.Micro{Kind: impl.MiFlush, At: at} }

func fenceStep() impl.Micro { return impl.Micro{Kind: impl.MiFence} }

func writeStep(at, v int) impl.Micro { return impl.Micro{Kind: impl.MiWrite, At: at, Value: v} }

func barrierStep() impl.Micro { return impl.Micro{Kind: impl.MiBarrier} }

func rightSteps() []impl.Micro {
	list := []impl.Micro{fenceStep(), barrierStep()}
	for _, at := range []int{0, 3, 31, 32, impl.PmSize - 1} {
		list = append(list, flushStep(at), storeStep(at, 0), storeStep(at, 77), storeStep(at, impl.MaxWord-1))
	}
	for _, at := range []int{0, 3, impl.BlkSize - 1} {
		list = append(list, writeStep(at, 0), writeStep(at, 77), writeStep(at, impl.MaxWord-1))
	}
	return list
}

// wrongSteps have no kind, no place, no word, or a number that must be 0 and is not.
func wrongSteps() []impl.Micro {
	list := []impl.Micro{storeStep(-1, -1), writeStep(impl.BlkSize, impl.MaxWord), {Kind: impl.MiFence, At: 1, Value: 1}}
	for _, kind := range []int{0, -1, 6, 7, math.MinInt, math.MaxInt} {
		list = append(list, impl.Micro{Kind: kind}, impl.Micro{Kind: kind, At: 3, Value: 5})
	}
	for _, at := range noIndexes(impl.PmSize - 1) {
		list = append(list, storeStep(at, 5), flushStep(at))
	}
	for _, at := range noIndexes(impl.BlkSize - 1) {
		list = append(list, writeStep(at, 5))
	}
	for _, v := range noIndexes(impl.MaxWord - 1) {
		list = append(list, storeStep(3, v), writeStep(3, v))
	}
	for _, n := range noIndexes(0) {
		list = append(list, impl.Micro{Kind: impl.MiFlush, At: 3, Value: n})
		for _, kind := range []int{impl.MiFence, impl.MiBarrier} {
			list = append(list, impl.Micro{Kind: kind, At: n}, impl.Micro{Kind: kind, Value: n})
		}
	}
	return list
}

type namedPair struct {
	name    string
	devices impl.Devices
}

func zeroPair() impl.Devices {
	return impl.Devices{Pm: zeroMemory(), Blk: zeroDevice()}
}

// restingPair tells its words apart, has nothing to be made sure, and an empty journal.
func restingPair() impl.Devices {
	d := impl.Devices{Pm: numberedMemory(), Blk: numberedDevice()}
	d.Pm.Words[impl.JournalAt] = 0
	return d
}

func pairOf(m namedMemory, b namedDevice) namedPair {
	return namedPair{m.name + " and " + b.name, impl.Devices{Pm: m.pm, Blk: b.blk}}
}

func rightPairs() []namedPair {
	var list []namedPair
	memories, devices := rightMemories(), rightDevices()
	for i := range max(len(memories), len(devices)) {
		list = append(list, pairOf(memories[i%len(memories)], devices[i%len(devices)]))
	}
	return list
}

// wrongPairs have a wrong memory, a wrong block device, or both.
func wrongPairs() []namedPair {
	var list []namedPair
	rightMemory, rightDevice := rightMemories()[3], rightDevices()[3]
	wrongOnes := wrongDevices()
	for i, m := range wrongMemories() {
		list = append(list, pairOf(m, rightDevice), pairOf(m, wrongOnes[i%len(wrongOnes)]))
	}
	for _, b := range wrongOnes {
		list = append(list, pairOf(rightMemory, b))
	}
	return list
}

func samePair(a, b impl.Devices) bool {
	return samePm(a.Pm, b.Pm) && sameBlk(a.Blk, b.Blk)
}

func stepCalls(d impl.Devices, list ...impl.Micro) []asked {
	calls := []asked{ask("MicrosDo", impl.MicrosDo, d, list)}
	for _, m := range list {
		calls = append(calls, ask("MicroDo", impl.MicroDo, d, m))
	}
	return calls
}

func replayCalls(p impl.Pm) []asked {
	return []asked{ask("JournalCount", impl.JournalCount, p), ask("ReplayPlan", impl.ReplayPlan, p)}
}

func do(t *testing.T, d impl.Devices, list ...impl.Micro) impl.Devices {
	t.Helper()
	x, code := impl.MicrosDo(d, list)
	if code != impl.OK || !impl.DevicesOK(x) {
		t.Fatalf("%d steps have the code %d, or the devices are not right", len(list), code)
	}
	return x
}

func flushPlan(t *testing.T, places ...int) []impl.Micro {
	t.Helper()
	plan, code := impl.FlushPlan(places)
	if code != impl.OK {
		t.Fatalf("FlushPlan(%v) has the code %d", places, code)
	}
	return plan
}

func journalPlan(t *testing.T, list []impl.Update) []impl.Micro {
	t.Helper()
	plan, code := impl.JournalPlan(list)
	if code != impl.OK {
		t.Fatalf("JournalPlan(%v) has the code %d", list, code)
	}
	return plan
}

func replayPlan(t *testing.T, p impl.Pm) []impl.Micro {
	t.Helper()
	plan, code := impl.ReplayPlan(p)
	if code != impl.OK {
		t.Fatalf("ReplayPlan has the code %d", code)
	}
	return plan
}

// updatesOf are n updates of places from first on, a line and a word apart, with values of their own.
func updatesOf(n, first int) []impl.Update {
	var list []impl.Update
	for i := range n {
		list = append(list, impl.Update{At: first + 9*i, Value: 50000 + i})
	}
	return list
}

type namedUpdates struct {
	name string
	list []impl.Update
}

// rightJournals are of one update at least.
func rightJournals() []namedUpdates {
	line := func(n int) []impl.Update {
		var list []impl.Update
		for i := range n {
			list = append(list, impl.Update{At: 111 - i, Value: i})
		}
		return list
	}
	return []namedUpdates{
		{"one", updatesOf(1, 60)},
		{"the first place", []impl.Update{{At: impl.InodeAt, Value: 5}}},
		{"the last place", []impl.Update{{At: impl.PmSize - 1, Value: impl.MaxWord - 1}}},
		{"of a line of its own and of another", []impl.Update{{At: 60, Value: 7}, {At: 50, Value: 8}}},
		{"both ends", []impl.Update{{At: impl.PmSize - 1, Value: 0}, {At: impl.InodeAt, Value: impl.MaxWord - 1}}},
		{"one place twice", []impl.Update{{At: 70, Value: 1}, {At: 70, Value: 2}}},
		{"one place twice, one between", []impl.Update{{At: 70, Value: 1}, {At: 200, Value: 2}, {At: 70, Value: 3}}},
		{"one place three times", []impl.Update{{At: 70, Value: 1}, {At: 70, Value: 2}, {At: 70, Value: 1}}},
		{"what is there already", []impl.Update{{At: 70, Value: 1070}, {At: 71, Value: 1071}}},
		{"one line, falling", line(impl.LineSize)},
		{"all but one", updatesOf(mostUpdates-1, 48)},
		{"as many as it holds", updatesOf(mostUpdates, 60)},
		{"as many, two lines", line(mostUpdates)},
	}
}

// noted is a memory with nothing to be made sure whose journal has these updates, however wrong they are.
func noted(count int, list ...impl.Update) impl.Pm {
	p := restingPair().Pm
	p.Words[8] = count
	for i, u := range list {
		p.Words[9+2*i], p.Words[10+2*i] = u.At, u.Value
	}
	return p
}
