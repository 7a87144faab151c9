package tests

import (
	"math"
	"testing"

	"loop.example/g00410/impl"
)

func TestP1LimitsOfDevices(t *testing.T) {
	if impl.BlkSize != 32 {
		t.Error("BlkSize is", impl.BlkSize)
	}
}

func TestP1RightDevices(t *testing.T) {
	for _, d := range rightDevices() {
		if !impl.BlkOK(d.blk) {
			t.Errorf("%s: BlkOK is false", d.name)
		}
		for _, c := range deviceCalls(d.blk, 0, 0, []int{1}) {
			if c.name == "BlkWrite" && len(d.blk.Pending) == mostWrites {
				wantAsItWas(t, d.name, c, impl.ErrFull)
			} else {
				wantCode(t, d.name, c, impl.OK)
			}
		}
	}
}

// The other arguments are wrong too: ErrBad comes ahead of their codes.
func TestP1WrongDevices(t *testing.T) {
	others := []struct {
		at, v int
		keeps []int
	}{{0, 0, nil}, {-1, 0, []int{1}}, {impl.BlkSize, -1, []int{401}}, {0, impl.MaxWord, []int{-1}}}
	for _, d := range wrongDevices() {
		if impl.BlkOK(d.blk) {
			t.Errorf("%s: BlkOK is true", d.name)
		}
		for _, o := range others {
			for _, c := range deviceCalls(d.blk, o.at, o.v, o.keeps) {
				wantCode(t, d.name, c, impl.ErrBad)
			}
		}
	}
}

// A value that is no word and a full device are told behind the place.
func TestP1NoSectors(t *testing.T) {
	for _, d := range rightDevices() {
		for _, at := range []int{-1, impl.BlkSize, impl.BlkSize + 1, impl.PmSize - 1, math.MinInt, math.MaxInt} {
			for _, v := range []int{0, -1, impl.MaxWord} {
				for _, c := range deviceCallsAt(d.blk, at, v) {
					wantCode(t, d.name, c, impl.ErrPlace)
				}
			}
		}
	}
}

func TestP1WritesOfNoWord(t *testing.T) {
	for _, d := range rightDevices() {
		for _, v := range []int{-1, impl.MaxWord, impl.MaxWord + 1, math.MinInt, math.MaxInt} {
			wantCode(t, d.name, ask("BlkWrite", impl.BlkWrite, d.blk, 0, v), impl.ErrRange)
		}
	}
}

func TestP1WriteUntilFull(t *testing.T) {
	b := zeroDevice()
	for i := range mostWrites {
		x, code := impl.BlkWrite(b, i%impl.BlkSize, i)
		if code != impl.OK || len(x.Pending) != i+1 {
			t.Fatalf("write %d has the code %d and leaves %d writes", i, code, len(x.Pending))
		}
		b = x
	}
	wantAsItWas(t, "full by writes", ask("BlkWrite", impl.BlkWrite, b, 0, 1), impl.ErrFull)
	wantRead(t, barrier(t, b), 15, 399)
	wantCode(t, "behind a barrier", ask("BlkWrite", impl.BlkWrite, barrier(t, b), 0, 1), impl.OK)
}

func TestP1KeepsOfDevices(t *testing.T) {
	for _, d := range rightDevices() {
		for _, keeps := range wrongKeeps() {
			wantCode(t, d.name, ask("BlkCrash", impl.BlkCrash, d.blk, keeps), impl.ErrRange)
		}
		for _, keeps := range [][]int{nil, {0}, {400}, {0, 400}, make([]int, impl.MaxList)} {
			wantCode(t, d.name, ask("BlkCrash", impl.BlkCrash, d.blk, keeps), impl.OK)
		}
	}
	for _, d := range append(rightDevices(), wrongDevices()...) {
		for _, keeps := range longKeeps() {
			wantCode(t, d.name, ask("BlkCrash", impl.BlkCrash, d.blk, keeps), impl.ErrLong)
		}
	}
}

func TestP1DevicesUntouched(t *testing.T) {
	for _, d := range append(rightDevices(), wrongDevices()...) {
		calls := []asked{ask("BlkOK", impl.BlkOK, d.blk)}
		calls = append(calls, deviceCalls(d.blk, 0, 0, nil)...)
		calls = append(calls, deviceCalls(d.blk, 3, 77, []int{1})...)
		calls = append(calls, deviceCalls(d.blk, impl.BlkSize-1, impl.MaxWord-1, []int{400, 0, 2})...)
		calls = append(calls, deviceCalls(d.blk, -1, -1, []int{-1})...)
		calls = append(calls, deviceCalls(d.blk, impl.BlkSize, impl.MaxWord, make([]int, impl.MaxList+1))...)
		wantPromise1(t, d.name, calls)
	}
}

func TestP1NilIsEmptyOfDevices(t *testing.T) {
	for _, writes := range [][]impl.Sector{{}, writesOf(9, 1, 2, 3)} {
		withEmpty := numberedDevice(writes...)
		withNil := numberedDevice(append([]impl.Sector(nil), writes...)...)
		want := deviceCalls(withNil, 3, 5, nil)
		for i, c := range deviceCalls(withEmpty, 3, 5, []int{}) {
			if !allAlike(c.plainAnswers(), want[i].plainAnswers(), false) {
				t.Errorf("%s takes nil and empty lists as two things", c.name)
			}
		}
	}
}
