package tests

import (
	"math"
	"slices"
	"testing"

	"loop.example/g00410/impl"
)

const mostWrites = 400

func zeroDevice() impl.Blk {
	return impl.Blk{Sectors: make([]int, impl.BlkSize)}
}

// numberedDevice tells its sectors apart: each is 1000 and its place.
func numberedDevice(pending ...impl.Sector) impl.Blk {
	b := zeroDevice()
	for at := range b.Sectors {
		b.Sectors[at] = 1000 + at
	}
	b.Pending = pending
	return b
}

// writesOf are n writes, round and round over the places, with values from 1 on.
func writesOf(n int, places ...int) []impl.Sector {
	var list []impl.Sector
	for i := range n {
		list = append(list, impl.Sector{At: places[i%len(places)], Value: i + 1})
	}
	return list
}

// sameBlk takes nil and empty lists as alike, as the document does.
func sameBlk(a, b impl.Blk) bool {
	return slices.Equal(a.Sectors, b.Sectors) && slices.Equal(a.Pending, b.Pending)
}

// deviceCalls are all calls of chapter 3 that answer a code.
func deviceCalls(b impl.Blk, at, v int, keeps []int) []asked {
	return append(deviceCallsAt(b, at, v),
		ask("BlkBarrier", impl.BlkBarrier, b),
		ask("BlkUnsure", impl.BlkUnsure, b),
		ask("BlkCrash", impl.BlkCrash, b, keeps),
	)
}

func deviceCallsAt(b impl.Blk, at, v int) []asked {
	return []asked{
		ask("BlkRead", impl.BlkRead, b, at),
		ask("BlkWrite", impl.BlkWrite, b, at, v),
	}
}

type namedDevice struct {
	name string
	blk  impl.Blk
}

func rightDevices() []namedDevice {
	full := zeroDevice()
	for at := range full.Sectors {
		full.Sectors[at] = impl.MaxWord - 1
	}
	return []namedDevice{
		{"noughts", zeroDevice()},
		{"empty, not nil", impl.Blk{Sectors: make([]int, impl.BlkSize), Pending: []impl.Sector{}}},
		{"greatest words", full},
		{"one write", numberedDevice(impl.Sector{At: 3, Value: 5})},
		{"a write of 0 to sector 0", numberedDevice(impl.Sector{})},
		{"edges of writes", numberedDevice(impl.Sector{At: 0, Value: 0}, impl.Sector{At: impl.BlkSize - 1, Value: impl.MaxWord - 1})},
		{"the same write twice", numberedDevice(impl.Sector{At: 9, Value: 4}, impl.Sector{At: 9, Value: 4})},
		{"all but one write", numberedDevice(writesOf(mostWrites-1, 31, 0, 8, 7, 16)...)},
		{"most writes", numberedDevice(writesOf(mostWrites, 31, 0, 8, 7, 16)...)},
		{"most writes of one sector", numberedDevice(writesOf(mostWrites, 20)...)},
	}
}

func wrongDevices() []namedDevice {
	list := []namedDevice{
		{"nothing", impl.Blk{}},
		{"no sectors", impl.Blk{Sectors: []int{}, Pending: []impl.Sector{{At: 1}}}},
		{"one sector too few", impl.Blk{Sectors: make([]int, impl.BlkSize-1)}},
		{"one sector too many", impl.Blk{Sectors: make([]int, impl.BlkSize+1)}},
		{"as many sectors as a memory has words", impl.Blk{Sectors: make([]int, impl.PmSize)}},
		{"one write too many", numberedDevice(writesOf(mostWrites+1, 1, 2)...)},
		{"far too many writes", numberedDevice(writesOf(impl.MaxList+1, 1, 2)...)},
	}
	for _, w := range []int{-1, impl.MaxWord, math.MinInt, math.MaxInt} {
		for _, at := range []int{0, 17, impl.BlkSize - 1} {
			b := zeroDevice()
			b.Sectors[at] = w
			list = append(list, namedDevice{"no word among the sectors", b})
		}
		list = append(list, namedDevice{"write of no word", numberedDevice(impl.Sector{At: 1}, impl.Sector{At: 1, Value: w})})
	}
	for _, at := range []int{-1, impl.BlkSize, impl.PmSize - 1, math.MinInt, math.MaxInt} {
		list = append(list, namedDevice{"write at no place", numberedDevice(impl.Sector{At: 1}, impl.Sector{At: at})})
	}
	return list
}

func mustBlk(t *testing.T, x impl.Blk, code int) impl.Blk {
	t.Helper()
	if code != impl.OK || !impl.BlkOK(x) {
		t.Fatalf("the code is %d, or the device is not right", code)
	}
	return x
}

func wantRead(t *testing.T, b impl.Blk, at, want int) {
	t.Helper()
	if got, code := impl.BlkRead(b, at); got != want || code != impl.OK {
		t.Errorf("BlkRead at %d = %d, %d, not %d", at, got, code, want)
	}
}

func write(t *testing.T, b impl.Blk, at, v int) impl.Blk {
	t.Helper()
	x, code := impl.BlkWrite(b, at, v)
	return mustBlk(t, x, code)
}

func barrier(t *testing.T, b impl.Blk) impl.Blk {
	t.Helper()
	x, code := impl.BlkBarrier(b)
	return mustBlk(t, x, code)
}

func crashBlk(t *testing.T, b impl.Blk, keeps ...int) impl.Blk {
	t.Helper()
	x, code := impl.BlkCrash(b, keeps)
	return mustBlk(t, x, code)
}
