package tests

import (
	"math"
	"slices"

	"loop.example/g00410/impl"
)

const mostStores = 400

// zeroMemory has no word and no store but noughts.
func zeroMemory() impl.Pm {
	return impl.Pm{Words: make([]int, impl.PmSize)}
}

// numberedMemory tells its words apart: each is 1000 and its place.
func numberedMemory(pending ...impl.Store) impl.Pm {
	p := zeroMemory()
	for at := range p.Words {
		p.Words[at] = 1000 + at
	}
	p.Pending = pending
	return p
}

// storesOf are n stores, round and round over the places, with values from 1 on.
func storesOf(n int, places ...int) []impl.Store {
	var list []impl.Store
	for i := range n {
		list = append(list, impl.Store{At: places[i%len(places)], Value: i + 1, Flushed: i%3 == 0})
	}
	return list
}

// samePm takes nil and empty lists as alike, as the document does.
func samePm(a, b impl.Pm) bool {
	return slices.Equal(a.Words, b.Words) && slices.Equal(a.Pending, b.Pending)
}

// memoryCalls are all calls of chapter 2 that answer a code.
func memoryCalls(p impl.Pm, at, v int, keeps []int) []asked {
	return append(memoryCallsAt(p, at, v),
		ask("PmFence", impl.PmFence, p),
		ask("PmUnsure", impl.PmUnsure, p),
		ask("PmSeen", impl.PmSeen, p),
		ask("PmCrash", impl.PmCrash, p, keeps),
	)
}

func memoryCallsAt(p impl.Pm, at, v int) []asked {
	return []asked{
		ask("PmLoad", impl.PmLoad, p, at),
		ask("PmStore", impl.PmStore, p, at, v),
		ask("PmFlush", impl.PmFlush, p, at),
	}
}

type namedMemory struct {
	name string
	pm   impl.Pm
}

func rightMemories() []namedMemory {
	full := zeroMemory()
	for at := range full.Words {
		full.Words[at] = impl.MaxWord - 1
	}
	return []namedMemory{
		{"noughts", zeroMemory()},
		{"empty, not nil", impl.Pm{Words: make([]int, impl.PmSize), Pending: []impl.Store{}}},
		{"greatest words", full},
		{"one store", numberedMemory(impl.Store{At: 3, Value: 5})},
		{"flushed behind unflushed", numberedMemory(impl.Store{At: 3, Value: 5}, impl.Store{At: 3, Value: 6, Flushed: true})},
		{"edges of stores", numberedMemory(impl.Store{At: 0, Value: 0}, impl.Store{At: impl.PmSize - 1, Value: impl.MaxWord - 1, Flushed: true})},
		{"all but one store", numberedMemory(storesOf(mostStores-1, 335, 0, 8, 7, 16)...)},
		{"most stores", numberedMemory(storesOf(mostStores, 335, 0, 8, 7, 16)...)},
		{"most stores of one word", numberedMemory(storesOf(mostStores, 40)...)},
	}
}

func wrongMemories() []namedMemory {
	list := []namedMemory{
		{"nothing", impl.Pm{}},
		{"no words", impl.Pm{Words: []int{}, Pending: []impl.Store{{At: 1}}}},
		{"one word too few", impl.Pm{Words: make([]int, impl.PmSize-1)}},
		{"one word too many", impl.Pm{Words: make([]int, impl.PmSize+1)}},
		{"one store too many", numberedMemory(storesOf(mostStores+1, 1, 2)...)},
		{"far too many stores", numberedMemory(storesOf(impl.MaxList+1, 1, 2)...)},
	}
	for _, w := range []int{-1, impl.MaxWord, math.MinInt, math.MaxInt} {
		for _, at := range []int{0, impl.PmSize - 1} {
			p := zeroMemory()
			p.Words[at] = w
			list = append(list, namedMemory{"no word among the words", p})
		}
		list = append(list, namedMemory{"store of no word", numberedMemory(impl.Store{At: 1}, impl.Store{At: 1, Value: w})})
	}
	for _, at := range []int{-1, impl.PmSize, math.MinInt, math.MaxInt} {
		list = append(list, namedMemory{"store at no place", numberedMemory(impl.Store{At: 1}, impl.Store{At: at, Flushed: true})})
	}
	return list
}
