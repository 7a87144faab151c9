package tests

import (
	"slices"
	"testing"

	"loop.example/g00410/impl"
)

func TestP3WrittenIsRead(t *testing.T) {
	for at := range impl.BlkSize {
		for _, v := range []int{0, 1, impl.MaxWord - 1} {
			before := numberedDevice()
			b := write(t, before, at, v)
			wantRead(t, b, at, v)
			wantRead(t, b, (at+1)%impl.BlkSize, before.Sectors[(at+1)%impl.BlkSize])
			if !slices.Equal(b.Sectors, before.Sectors) {
				t.Errorf("a write at %d is sure at once", at)
			}
			if !slices.Equal(b.Pending, []impl.Sector{{At: at, Value: v}}) {
				t.Errorf("a write at %d leaves %v", at, b.Pending)
			}
		}
	}
}

func TestP3NewestWriteIsRead(t *testing.T) {
	writes := []impl.Sector{{At: 5, Value: 50}, {At: 6, Value: 60}, {At: 5, Value: 51}, {At: 6, Value: 0}, {At: 0, Value: 0}}
	b := numberedDevice()
	for _, w := range writes {
		b = write(t, b, w.At, w.Value)
		wantRead(t, b, w.At, w.Value)
	}
	if !slices.Equal(b.Pending, writes) {
		t.Error("the writes are not in their order", b.Pending)
	}
	sure := barrier(t, b)
	for _, x := range []impl.Blk{b, sure} {
		for at, want := range map[int]int{0: 0, 5: 51, 6: 0, 7: 1007} {
			wantRead(t, x, at, want)
		}
	}
	if len(sure.Pending) != 0 {
		t.Error("a barrier leaves", sure.Pending)
	}
}

func TestP3BehindABarrierItIsSure(t *testing.T) {
	for _, d := range rightDevices() {
		sure := barrier(t, d.blk)
		for at := range impl.BlkSize {
			want, _ := impl.BlkRead(d.blk, at)
			if sure.Sectors[at] != want {
				t.Errorf("%s: behind the barrier sector %d is %d, not %d", d.name, at, sure.Sectors[at], want)
			}
			wantRead(t, sure, at, want)
		}
		if list, code := impl.BlkUnsure(sure); len(sure.Pending) != 0 || len(list) != 0 || code != impl.OK {
			t.Errorf("%s: behind the barrier these are not sure: %v, %d", d.name, list, code)
		}
		for _, keeps := range [][]int{nil, {0}, {1}, {400}, {0, 2}} {
			if !sameBlk(crashBlk(t, sure, keeps...), sure) {
				t.Errorf("%s: a crash with keeps %v changes what is sure", d.name, keeps)
			}
		}
		if !sameBlk(barrier(t, sure), sure) {
			t.Errorf("%s: a barrier with nothing to make sure changes something", d.name)
		}
	}
}

func TestP3WriteBehindABarrier(t *testing.T) {
	b := write(t, numberedDevice(), 3, 5)
	b = barrier(t, b)
	b = write(t, b, 3, 6)
	wantRead(t, b, 3, 6)
	wantRead(t, crashBlk(t, b), 3, 5)
	wantRead(t, crashBlk(t, b, 1), 3, 6)
	wantRead(t, barrier(t, b), 3, 6)
}

func TestP3Unsure(t *testing.T) {
	cases := []struct {
		pending []impl.Sector
		want    []int
	}{
		{nil, nil},
		{[]impl.Sector{{}}, []int{0}},
		{writesOf(9, 31, 7, 8, 0, 7), []int{0, 7, 8, 31}},
		{writesOf(mostWrites, 20), []int{20}},
		{append(writesOf(mostWrites-1, 20), impl.Sector{At: 2}), []int{2, 20}},
		{[]impl.Sector{{At: 9, Value: 1009}, {At: 2, Value: 1002}}, []int{2, 9}},
	}
	for _, c := range cases {
		if got, code := impl.BlkUnsure(numberedDevice(c.pending...)); code != impl.OK || !slices.Equal(got, c.want) {
			t.Error("BlkUnsure", got, code, "not", c.want)
		}
	}
	got, code := impl.BlkUnsure(numberedDevice(writesEverywhere()...))
	if code != impl.OK || len(got) != impl.BlkSize || got[0] != 0 || !slices.IsSorted(got) {
		t.Error("BlkUnsure of writes everywhere", got, code)
	}
}

// writesEverywhere are one of each sector, the last sector first; each value is its sector.
func writesEverywhere() []impl.Sector {
	var list []impl.Sector
	for at := impl.BlkSize - 1; at >= 0; at-- {
		list = append(list, impl.Sector{At: at, Value: at})
	}
	return list
}

func TestP3CrashKeepsFirstWrites(t *testing.T) {
	b := numberedDevice(
		impl.Sector{At: 20, Value: 1}, impl.Sector{At: 2, Value: 2}, impl.Sector{At: 20, Value: 3},
		impl.Sector{At: 7, Value: 4}, impl.Sector{At: 20, Value: 5}, impl.Sector{At: 2, Value: 6},
	)
	cases := []struct {
		keeps       []int
		s2, s7, s20 int
		why         string
	}{
		{nil, 1002, 1007, 1020, "none survive without keeps"},
		{[]int{0}, 1002, 1007, 1020, "none survive of 0"},
		{[]int{1}, 2, 4, 1, "one keep counts for all sectors"},
		{[]int{2}, 6, 4, 3, "as many as there are of sector 7"},
		{[]int{3}, 6, 4, 5, "all"},
		{[]int{400}, 6, 4, 5, "more than there are"},
		{[]int{0, 1}, 1002, 4, 1020, "two keeps go round"},
		{[]int{2, 0}, 6, 1007, 3, "two keeps go round"},
		{[]int{1, 0, 2}, 2, 1007, 3, "as many keeps as sectors"},
		{[]int{0, 0, 3, 400, 400}, 1002, 1007, 5, "more keeps than sectors"},
	}
	for _, c := range cases {
		want := numberedDevice()
		want.Sectors[2], want.Sectors[7], want.Sectors[20] = c.s2, c.s7, c.s20
		if got := crashBlk(t, b, c.keeps...); !sameBlk(got, want) {
			t.Errorf("keeps %v leave %d, %d, %d and %d writes: %s", c.keeps, got.Sectors[2], got.Sectors[7], got.Sectors[20], len(got.Pending), c.why)
		}
	}
}

func TestP3CrashOfManyWritesOfOneSector(t *testing.T) {
	b := numberedDevice(writesOf(mostWrites, 20)...)
	for keep := range mostWrites + 1 {
		want := keep
		if keep == 0 {
			want = 1020
		}
		wantRead(t, crashBlk(t, b, keep), 20, want)
	}
}

// All sectors are not sure: with one keep fewer the last one has the first keep.
func TestP3CrashRoundAndRound(t *testing.T) {
	for _, n := range []int{1, 2, 5, impl.BlkSize - 1, impl.BlkSize, impl.BlkSize + 1, impl.MaxList} {
		keeps := make([]int, n)
		keeps[0] = 1
		got := crashBlk(t, numberedDevice(writesEverywhere()...), keeps...)
		for at := range impl.BlkSize {
			want := 1000 + at
			if at%n == 0 {
				want = at
			}
			if got.Sectors[at] != want {
				t.Fatalf("of %d keeps sector %d is %d, not %d", n, at, got.Sectors[at], want)
			}
		}
	}
}

// shelf tells a device sector by sector: the sure word first, then its writes.
type shelf [impl.BlkSize][]int

func newShelf(words [impl.BlkSize]int) *shelf {
	s := &shelf{}
	for at, v := range words {
		s[at] = []int{v}
	}
	return s
}

func (s *shelf) unsure() []int {
	var list []int
	for at, words := range s {
		if len(words) > 1 {
			list = append(list, at)
		}
	}
	return list
}

func (s *shelf) read() [impl.BlkSize]int {
	var words [impl.BlkSize]int
	for at := range s {
		words[at] = s[at][len(s[at])-1]
	}
	return words
}

func (s *shelf) crashed(keeps []int) [impl.BlkSize]int {
	var words [impl.BlkSize]int
	for at := range s {
		words[at] = s[at][0]
	}
	for i, at := range s.unsure() {
		if len(keeps) > 0 {
			words[at] = s[at][min(keeps[i%len(keeps)], len(s[at])-1)]
		}
	}
	return words
}

func (s *shelf) check(t *testing.T, b impl.Blk, keeps []int) {
	t.Helper()
	for at, want := range s.read() {
		wantRead(t, b, at, want)
	}
	for at, want := range s.crashed(nil) {
		if b.Sectors[at] != want {
			t.Fatalf("of sector %d %d is sure, not %d", at, b.Sectors[at], want)
		}
	}
	if got, code := impl.BlkUnsure(b); code != impl.OK || !slices.Equal(got, s.unsure()) {
		t.Fatal("BlkUnsure", got, code, s.unsure())
	}
	after := s.crashed(keeps)
	if got := crashBlk(t, b, keeps...); len(got.Pending) != 0 || !slices.Equal(got.Sectors, after[:]) {
		t.Fatal("BlkCrash with", keeps)
	}
}

func runBesideShelf(t *testing.T, d *dice, steps, places int) {
	b, s := zeroDevice(), newShelf([impl.BlkSize]int{})
	for range steps {
		switch k := d.roll(12); {
		case k < 10:
			at, v := d.roll(places)*5%impl.BlkSize, d.roll(impl.MaxWord)
			b = write(t, b, at, v)
			s[at] = append(s[at], v)
		case k < 11:
			b, s = barrier(t, b), newShelf(s.read())
		default:
			keeps := rollKeeps(d)
			b, s = crashBlk(t, b, keeps...), newShelf(s.crashed(keeps))
		}
		s.check(t, b, rollKeeps(d))
	}
}

func TestP3RunsBesideAShelf(t *testing.T) {
	d := &dice{state: 2}
	for run := range 40 {
		runBesideShelf(t, d, 120, []int{1, 3, 12, impl.BlkSize}[run%4])
	}
}
