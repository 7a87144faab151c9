package tests

import (
	"slices"
	"testing"

	"loop.example/g00410/impl"
)

func mustPm(t *testing.T, x impl.Pm, code int) impl.Pm {
	t.Helper()
	if code != impl.OK || !impl.PmOK(x) {
		t.Fatalf("the code is %d, or the memory is not right", code)
	}
	return x
}

func wantLoad(t *testing.T, p impl.Pm, at, want int) {
	t.Helper()
	if got, code := impl.PmLoad(p, at); got != want || code != impl.OK {
		t.Errorf("PmLoad at %d = %d, %d, not %d", at, got, code, want)
	}
}

func store(t *testing.T, p impl.Pm, at, v int) impl.Pm {
	t.Helper()
	x, code := impl.PmStore(p, at, v)
	return mustPm(t, x, code)
}

func flush(t *testing.T, p impl.Pm, at int) impl.Pm {
	t.Helper()
	x, code := impl.PmFlush(p, at)
	return mustPm(t, x, code)
}

func fence(t *testing.T, p impl.Pm) impl.Pm {
	t.Helper()
	x, code := impl.PmFence(p)
	return mustPm(t, x, code)
}

func crash(t *testing.T, p impl.Pm, keeps ...int) impl.Pm {
	t.Helper()
	x, code := impl.PmCrash(p, keeps)
	return mustPm(t, x, code)
}

func TestP2StoredIsLoaded(t *testing.T) {
	for at := range impl.PmSize {
		for _, v := range []int{0, 1, impl.MaxWord - 1} {
			before := numberedMemory()
			p := store(t, before, at, v)
			wantLoad(t, p, at, v)
			wantLoad(t, p, (at+1)%impl.PmSize, before.Words[(at+1)%impl.PmSize])
			if !slices.Equal(p.Words, before.Words) {
				t.Errorf("a store at %d is sure at once", at)
			}
			if !slices.Equal(p.Pending, []impl.Store{{At: at, Value: v}}) {
				t.Errorf("a store at %d leaves %v", at, p.Pending)
			}
		}
	}
}

func TestP2NewestStoreIsLoaded(t *testing.T) {
	p := numberedMemory()
	for _, s := range []impl.Store{{At: 5, Value: 50}, {At: 6, Value: 60}, {At: 5, Value: 51}, {At: 6, Value: 0}} {
		p = store(t, p, s.At, s.Value)
		wantLoad(t, p, s.At, s.Value)
	}
	wantLoad(t, p, 5, 51)
	wantLoad(t, p, 6, 0)
	wantLoad(t, p, 7, 1007)
	want := []impl.Store{{At: 5, Value: 50}, {At: 6, Value: 60}, {At: 5, Value: 51}, {At: 6, Value: 0}}
	if !slices.Equal(p.Pending, want) {
		t.Error("the stores are not in their order", p.Pending)
	}
}

func TestP2FlushIsOfOneLine(t *testing.T) {
	var all []impl.Store
	for at := range impl.PmSize {
		all = append(all, impl.Store{At: at, Value: at})
	}
	for at := range impl.PmSize {
		p := flush(t, numberedMemory(all...), at)
		for i, s := range p.Pending {
			want := impl.Store{At: i, Value: i, Flushed: i/8 == at/8}
			if s != want {
				t.Fatalf("a flush at %d leaves %v, not %v", at, s, want)
			}
		}
		if !slices.Equal(p.Words, numberedMemory().Words) {
			t.Fatalf("a flush at %d changes words", at)
		}
	}
}

func TestP2FlushedStaysFlushed(t *testing.T) {
	p := numberedMemory(impl.Store{At: 3, Value: 1, Flushed: true}, impl.Store{At: 9, Value: 2})
	p = flush(t, p, 100)
	if !p.Pending[0].Flushed || p.Pending[1].Flushed {
		t.Error("a flush of another line leaves", p.Pending)
	}
	p = flush(t, p, 8)
	p = flush(t, p, 15)
	if !p.Pending[0].Flushed || !p.Pending[1].Flushed {
		t.Error("flushes of both lines leave", p.Pending)
	}
}

func TestP2PartFlushed(t *testing.T) {
	p := numberedMemory()
	p = store(t, p, 3, 5)
	p = store(t, p, 3, 6)
	p = store(t, p, 9, 7)
	p = flush(t, p, 0)
	p = store(t, p, 3, 8)
	p = store(t, p, 4, 9)
	p = fence(t, p)
	want := numberedMemory(impl.Store{At: 9, Value: 7}, impl.Store{At: 3, Value: 8}, impl.Store{At: 4, Value: 9})
	want.Words[3] = 6
	if !samePm(p, want) {
		t.Errorf("behind the fence word 3 is %d and these are left: %v", p.Words[3], p.Pending)
	}
	wantLoad(t, p, 3, 8)
	wantLoad(t, p, 4, 9)
	wantLoad(t, p, 9, 7)
	p = fence(t, p)
	if !samePm(p, want) {
		t.Error("a second fence changes what is not flushed", p.Pending)
	}
	wantLoad(t, crash(t, p), 3, 6)
	wantLoad(t, crash(t, p), 4, 1004)
}

// Such a queue comes of no calls, but it is a memory, and the fence takes what is flushed alone.
func TestP2FlushedBehindUnflushed(t *testing.T) {
	p := fence(t, numberedMemory(
		impl.Store{At: 3, Value: 1, Flushed: true},
		impl.Store{At: 3, Value: 2},
		impl.Store{At: 3, Value: 3, Flushed: true},
		impl.Store{At: 4, Value: 4},
		impl.Store{At: 3, Value: 5},
	))
	want := numberedMemory(impl.Store{At: 3, Value: 2}, impl.Store{At: 4, Value: 4}, impl.Store{At: 3, Value: 5})
	want.Words[3] = 3
	if !samePm(p, want) {
		t.Errorf("word 3 is %d, and these are left: %v", p.Words[3], p.Pending)
	}
	wantLoad(t, p, 3, 5)
}

func TestP2FlushedAndFencedIsSure(t *testing.T) {
	p := numberedMemory(storesOf(mostStores, 335, 0, 8, 7, 16, 328, 7)...)
	seen, _ := impl.PmSeen(p)
	for at := 0; at < impl.PmSize; at += impl.LineSize {
		p = flush(t, p, at)
	}
	p = fence(t, p)
	if len(p.Pending) != 0 || !slices.Equal(p.Words, seen) {
		t.Error("flushed and fenced, it is not what was seen, or not sure:", len(p.Pending))
	}
	for _, keeps := range [][]int{nil, {0}, {1}, {400}} {
		if !samePm(crash(t, p, keeps...), p) {
			t.Error("a crash changes what is sure; keeps", keeps)
		}
	}
}

func TestP2Unsure(t *testing.T) {
	cases := []struct {
		pending []impl.Store
		want    []int
	}{
		{nil, nil},
		{storesOf(1, 0), []int{0}},
		{storesOf(9, 335, 7, 8, 0, 7), []int{0, 7, 8, 335}},
		{storesOf(mostStores, 40), []int{40}},
		{[]impl.Store{{At: 9, Flushed: true}, {At: 2}}, []int{2, 9}},
	}
	for _, c := range cases {
		if got, code := impl.PmUnsure(numberedMemory(c.pending...)); code != impl.OK || !slices.Equal(got, c.want) {
			t.Error("PmUnsure", got, code, "not", c.want)
		}
	}
	var all []impl.Store
	for at := impl.PmSize - 1; at >= 0; at-- {
		all = append(all, impl.Store{At: at})
	}
	got, code := impl.PmUnsure(numberedMemory(all...))
	if code != impl.OK || len(got) != impl.PmSize || got[0] != 0 || !slices.IsSorted(got) {
		t.Error("PmUnsure of stores at all places", len(got), code)
	}
}

func TestP2SeenIsAllLoads(t *testing.T) {
	for _, m := range rightMemories() {
		seen, code := impl.PmSeen(m.pm)
		if code != impl.OK || len(seen) != impl.PmSize {
			t.Fatalf("%s: PmSeen has the code %d and %d words", m.name, code, len(seen))
		}
		for at, v := range seen {
			wantLoad(t, m.pm, at, v)
		}
	}
}

func TestP2CrashKeepsFirstStores(t *testing.T) {
	p := numberedMemory(
		impl.Store{At: 20, Value: 1}, impl.Store{At: 2, Value: 2, Flushed: true}, impl.Store{At: 20, Value: 3, Flushed: true},
		impl.Store{At: 7, Value: 4}, impl.Store{At: 20, Value: 5}, impl.Store{At: 2, Value: 6},
	)
	cases := []struct {
		keeps        []int
		w2, w7, w20  int
		whatItShould string
	}{
		{nil, 1002, 1007, 1020, "none survive without keeps"},
		{[]int{0}, 1002, 1007, 1020, "none survive of 0, flushed ones neither"},
		{[]int{1}, 2, 4, 1, "one keep counts for all words"},
		{[]int{2}, 6, 4, 3, "as many as there are of word 7"},
		{[]int{3}, 6, 4, 5, "all"},
		{[]int{400}, 6, 4, 5, "more than there are"},
		{[]int{0, 1}, 1002, 4, 1020, "two keeps go round"},
		{[]int{2, 0}, 6, 1007, 3, "two keeps go round"},
		{[]int{1, 0, 2}, 2, 1007, 3, "as many keeps as words"},
		{[]int{0, 0, 3, 400, 400}, 1002, 1007, 5, "more keeps than words"},
	}
	for _, c := range cases {
		want := numberedMemory()
		want.Words[2], want.Words[7], want.Words[20] = c.w2, c.w7, c.w20
		if got := crash(t, p, c.keeps...); !samePm(got, want) {
			t.Errorf("keeps %v leave %d, %d, %d and %d stores: %s", c.keeps, got.Words[2], got.Words[7], got.Words[20], len(got.Pending), c.whatItShould)
		}
	}
}

func TestP2CrashOfManyStoresOfOneWord(t *testing.T) {
	p := numberedMemory(storesOf(mostStores, 40)...)
	for keep := range mostStores + 1 {
		want := keep
		if keep == 0 {
			want = 1040
		}
		wantLoad(t, crash(t, p, keep), 40, want)
	}
}

// 336 words that are not sure, and one keep fewer: the last word has the first keep.
func TestP2CrashRoundAndRound(t *testing.T) {
	var all []impl.Store
	for at := impl.PmSize - 1; at >= 0; at-- {
		all = append(all, impl.Store{At: at, Value: at})
	}
	for _, n := range []int{1, 2, 5, impl.PmSize - 1, impl.PmSize, impl.PmSize + 1, impl.MaxList} {
		keeps := make([]int, n)
		keeps[0] = 1
		got := crash(t, numberedMemory(all...), keeps...)
		for at := range impl.PmSize {
			want := 1000 + at
			if at%n == 0 {
				want = at
			}
			if got.Words[at] != want {
				t.Fatalf("of %d keeps word %d is %d, not %d", n, at, got.Words[at], want)
			}
		}
	}
}

// mirror tells a memory word by word, unlike the program, which tells it store by store.
type mirror struct {
	sure    [impl.PmSize]int
	stores  [impl.PmSize][]int
	flushed [impl.PmSize]int
}

func (m *mirror) load(at int) int {
	if n := len(m.stores[at]); n > 0 {
		return m.stores[at][n-1]
	}
	return m.sure[at]
}

func (m *mirror) flush(at int) {
	first := at - at%impl.LineSize
	for i := first; i < first+impl.LineSize; i++ {
		m.flushed[i] = len(m.stores[i])
	}
}

func (m *mirror) fence() {
	for at, n := range m.flushed {
		if n > 0 {
			m.sure[at] = m.stores[at][n-1]
			m.stores[at] = m.stores[at][n:]
			m.flushed[at] = 0
		}
	}
}

func (m *mirror) unsure() []int {
	var list []int
	for at, s := range m.stores {
		if len(s) > 0 {
			list = append(list, at)
		}
	}
	return list
}

func (m *mirror) crashed(keeps []int) [impl.PmSize]int {
	words := m.sure
	for i, at := range m.unsure() {
		if len(keeps) == 0 {
			continue
		}
		if n := min(keeps[i%len(keeps)], len(m.stores[at])); n > 0 {
			words[at] = m.stores[at][n-1]
		}
	}
	return words
}

func (m *mirror) check(t *testing.T, p impl.Pm, keeps []int) {
	t.Helper()
	if !slices.Equal(p.Words, m.sure[:]) {
		t.Fatal("other words are sure")
	}
	if got, code := impl.PmUnsure(p); code != impl.OK || !slices.Equal(got, m.unsure()) {
		t.Fatal("PmUnsure", got, code, m.unsure())
	}
	seen, _ := impl.PmSeen(p)
	for at := range impl.PmSize {
		if seen[at] != m.load(at) {
			t.Fatal("PmSeen at", at, seen[at], m.load(at))
		}
	}
	after := m.crashed(keeps)
	if got := crash(t, p, keeps...); len(got.Pending) != 0 || !slices.Equal(got.Words, after[:]) {
		t.Fatal("PmCrash with", keeps)
	}
}

func rollKeeps(d *dice) []int {
	keeps := make([]int, d.roll(6))
	for i := range keeps {
		keeps[i] = d.roll(5)
	}
	return keeps
}

func runBesideMirror(t *testing.T, d *dice, steps, places int) {
	p, m := zeroMemory(), &mirror{}
	for range steps {
		at, v := d.roll(places)*5%impl.PmSize, d.roll(impl.MaxWord)
		switch k := d.roll(12); {
		case k < 8:
			p = store(t, p, at, v)
			m.stores[at] = append(m.stores[at], v)
			wantLoad(t, p, at, v)
		case k < 10:
			p = flush(t, p, at)
			m.flush(at)
		case k < 11:
			p = fence(t, p)
			m.fence()
		default:
			keeps := rollKeeps(d)
			after := m.crashed(keeps)
			p, m = crash(t, p, keeps...), &mirror{sure: after}
		}
		m.check(t, p, rollKeeps(d))
	}
}

func TestP2RunsBesideAMirror(t *testing.T) {
	d := &dice{state: 1}
	for run := range 40 {
		runBesideMirror(t, d, 120, []int{3, 12, 60, impl.PmSize}[run%4])
	}
}
