package tests

import (
	"math"
	"slices"

	"loop.example/g00410/impl"
)

const (
	mostStores = 400
	sentinel   = 424242
)

// zeroMemory has no word and no store but noughts.
func zeroMemory() impl.Pm {
	return impl.Pm{Words: make([]int, impl.PmSize)}
}

// numberedMemory tells its words apart: each is 1000 and its place.
func numberedMemory(pending ...impl.Store) impl.Pm {
	p := zeroMemory()
	for at := range p.Words {
		p.Words[at] = 1000 + at
	}
	p.Pending = pending
	return p
}

// storesOf are n stores, round and round over the places, with values from 1 on.
func storesOf(n int, places ...int) []impl.Store {
	var list []impl.Store
	for i := range n {
		list = append(list, impl.Store{At: places[i%len(places)], Value: i + 1, Flushed: i%3 == 0})
	}
	return list
}

func copyMemory(p impl.Pm) impl.Pm {
	return impl.Pm{Words: slices.Clone(p.Words), Pending: slices.Clone(p.Pending)}
}

// samePm takes nil and empty lists as alike, as the document does.
func samePm(a, b impl.Pm) bool {
	return slices.Equal(a.Words, b.Words) && slices.Equal(a.Pending, b.Pending)
}

func isZeroPm(p impl.Pm) bool {
	return len(p.Words) == 0 && len(p.Pending) == 0
}

// withRoom is the list with elements behind its end, so that a call that appends in place is seen.
func withRoom[E any](list []E, behind E) []E {
	room := append(slices.Clone(list), behind, behind, behind)
	return room[:len(list)]
}

func withRoomPm(p impl.Pm) impl.Pm {
	return impl.Pm{
		Words:   withRoom(p.Words, sentinel),
		Pending: withRoom(p.Pending, impl.Store{At: sentinel, Value: sentinel, Flushed: true}),
	}
}

func wholePm(p impl.Pm) impl.Pm {
	return impl.Pm{Words: p.Words[:cap(p.Words)], Pending: p.Pending[:cap(p.Pending)]}
}

func scribbleInts(list []int) {
	whole := list[:cap(list)]
	for i := range whole {
		whole[i] = -7
	}
}

func scribblePm(p impl.Pm) {
	scribbleInts(p.Words)
	whole := p.Pending[:cap(p.Pending)]
	for i := range whole {
		whole[i] = impl.Store{At: -7, Value: -7, Flushed: true}
	}
}

// outcome holds whatever a call of the memory answers, so that all of them are asked alike.
type outcome struct {
	pm     impl.Pm
	list   []int
	number int
	code   int
}

func sameOutcome(a, b outcome) bool {
	return samePm(a.pm, b.pm) && slices.Equal(a.list, b.list) && a.number == b.number && a.code == b.code
}

func isZeroOutcome(o outcome) bool {
	return isZeroPm(o.pm) && len(o.list) == 0 && o.number == 0
}

type memoryCall struct {
	name string
	do   func(p impl.Pm) outcome
}

// memoryCalls are all calls of chapter 2 that answer a code, with these other arguments.
func memoryCalls(at, v int, keeps []int) []memoryCall {
	ofPm := func(x impl.Pm, code int) outcome { return outcome{pm: x, code: code} }
	ofList := func(x []int, code int) outcome { return outcome{list: x, code: code} }
	ofNumber := func(x, code int) outcome { return outcome{number: x, code: code} }
	return []memoryCall{
		{"PmLoad", func(p impl.Pm) outcome { return ofNumber(impl.PmLoad(p, at)) }},
		{"PmStore", func(p impl.Pm) outcome { return ofPm(impl.PmStore(p, at, v)) }},
		{"PmFlush", func(p impl.Pm) outcome { return ofPm(impl.PmFlush(p, at)) }},
		{"PmFence", func(p impl.Pm) outcome { return ofPm(impl.PmFence(p)) }},
		{"PmUnsure", func(p impl.Pm) outcome { return ofList(impl.PmUnsure(p)) }},
		{"PmSeen", func(p impl.Pm) outcome { return ofList(impl.PmSeen(p)) }},
		{"PmCrash", func(p impl.Pm) outcome { return ofPm(impl.PmCrash(p, keeps)) }},
	}
}

type namedMemory struct {
	name string
	pm   impl.Pm
}

func rightMemories() []namedMemory {
	full := zeroMemory()
	for at := range full.Words {
		full.Words[at] = impl.MaxWord - 1
	}
	return []namedMemory{
		{"noughts", zeroMemory()},
		{"empty, not nil", impl.Pm{Words: make([]int, impl.PmSize), Pending: []impl.Store{}}},
		{"greatest words", full},
		{"one store", numberedMemory(impl.Store{At: 3, Value: 5})},
		{"flushed behind unflushed", numberedMemory(impl.Store{At: 3, Value: 5}, impl.Store{At: 3, Value: 6, Flushed: true})},
		{"edges of stores", numberedMemory(impl.Store{At: 0, Value: 0}, impl.Store{At: impl.PmSize - 1, Value: impl.MaxWord - 1, Flushed: true})},
		{"all but one store", numberedMemory(storesOf(mostStores-1, 335, 0, 8, 7, 16)...)},
		{"most stores", numberedMemory(storesOf(mostStores, 335, 0, 8, 7, 16)...)},
		{"most stores of one word", numberedMemory(storesOf(mostStores, 40)...)},
	}
}

func wrongMemories() []namedMemory {
	list := []namedMemory{
		{"nothing", impl.Pm{}},
		{"no words", impl.Pm{Words: []int{}, Pending: []impl.Store{{At: 1}}}},
		{"one word too few", impl.Pm{Words: make([]int, impl.PmSize-1)}},
		{"one word too many", impl.Pm{Words: make([]int, impl.PmSize+1)}},
		{"one store too many", numberedMemory(storesOf(mostStores+1, 1, 2)...)},
		{"far too many stores", numberedMemory(storesOf(impl.MaxList+1, 1, 2)...)},
	}
	for _, w := range []int{-1, impl.MaxWord, math.MinInt, math.MaxInt} {
		for _, at := range []int{0, impl.PmSize - 1} {
			p := zeroMemory()
			p.Words[at] = w
			list = append(list, namedMemory{"no word among the words", p})
		}
		list = append(list, namedMemory{"store of no word", numberedMemory(impl.Store{At: 1}, impl.Store{At: 1, Value: w})})
	}
	for _, at := range []int{-1, impl.PmSize, math.MinInt, math.MaxInt} {
		list = append(list, namedMemory{"store at no place", numberedMemory(impl.Store{At: 1}, impl.Store{At: at, Flushed: true})})
	}
	return list
}

// dice rolls the same numbers in every run: a test that failed fails again.
type dice struct{ state uint64 }

func (d *dice) roll(n int) int {
	d.state = d.state*6364136223846793005 + 1442695040888963407
	return int(d.state>>33) % n
}
