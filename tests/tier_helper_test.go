package tests

import (
	"cmp"
	"fmt"
	"math"
	"slices"
	"testing"

	"loop.example/g00410/impl"
)

const (
	allHeat  = 128
	mostHeat = 64
)

// spot is a page of an inode.
type spot struct{ inode, page int }

func (s spot) at() int { return 8*s.inode + s.page }

func everySpot() []spot {
	var list []spot
	for inode := range lastInode + 1 {
		for page := range mostPages {
			list = append(list, spot{inode, page})
		}
	}
	return list
}

func evenHeat(n int) []int { return slices.Repeat([]int{n}, allHeat) }

// heatWith has one heat of all, but for the spots that have their own.
func heatWith(n int, own map[spot]int) []int {
	heat := evenHeat(n)
	for s, h := range own {
		heat[s.at()] = h
	}
	return heat
}

// risingHeat goes round and round from 0 to the most.
func risingHeat() []int {
	heat := evenHeat(0)
	for at := range heat {
		heat[at] = at % (mostHeat + 1)
	}
	return heat
}

func rollHeat(d *dice, kinds int) []int {
	heat := evenHeat(0)
	for at := range heat {
		heat[at] = d.roll(kinds) * mostHeat / max(1, kinds-1)
	}
	return heat
}

type namedHeat struct {
	name string
	heat []int
}

func rightHeats() []namedHeat {
	last, first := spot{lastInode, 7}, spot{0, 0}
	return []namedHeat{
		{"as it begins", evenHeat(1)},
		{"nothing", evenHeat(0)},
		{"the most", evenHeat(mostHeat)},
		{"rising", risingHeat()},
		{"the most of the first alone", heatWith(0, map[spot]int{first: mostHeat})},
		{"the most of the last alone", heatWith(0, map[spot]int{last: mostHeat})},
		{"nothing of both ends", heatWith(7, map[spot]int{first: 0, last: 0})},
	}
}

// wrongHeats have too few numbers or too many, or one that is no heat.
func wrongHeats() []namedHeat {
	list := []namedHeat{{"none", nil}, {"an empty list", []int{}}}
	for _, n := range []int{1, 8, 16, allHeat - 1, allHeat + 1, 2 * allHeat, impl.MaxList} {
		list = append(list, namedHeat{fmt.Sprint(n, " numbers"), slices.Repeat([]int{1}, n)})
	}
	for _, n := range noIndexes(mostHeat) {
		for _, s := range []spot{{0, 0}, {1, 0}, {7, 3}, {lastInode, 7}} {
			list = append(list, namedHeat{fmt.Sprint(n, " at ", s), heatWith(1, map[spot]int{s: n})})
		}
	}
	return append(list, namedHeat{"two that are none", heatWith(1, map[spot]int{{2, 2}: -1, {3, 3}: 65})})
}

func longHeats() []namedHeat {
	wrong := slices.Repeat([]int{1}, impl.MaxList+1)
	wrong[0] = -1
	return []namedHeat{
		{"one number too many for a list", slices.Repeat([]int{1}, impl.MaxList+1)},
		{"too long, and no heat in it", wrong},
		{"far too long", make([]int, 3*impl.MaxList)},
	}
}

// noSpots are none by their inode, by their page, or by both.
func noSpots() []spot {
	list := []spot{{-1, -1}, {lastInode + 1, mostPages}, {-1, mostPages}, {lastInode + 1, -1}, {math.MinInt, math.MaxInt}, {math.MaxInt, math.MinInt}, {0, allHeat - 1}, {1, -8}}
	for _, n := range noIndexes(lastInode) {
		list = append(list, spot{n, 0}, spot{n, 7})
	}
	for _, n := range noIndexes(mostPages - 1) {
		list = append(list, spot{0, n}, spot{1, n}, spot{lastInode, n})
	}
	return list
}

func touch(t *testing.T, heat []int, s spot) []int {
	t.Helper()
	x, code := impl.Touch(heat, s.inode, s.page)
	if code != impl.OK || !impl.HeatOK(x) {
		t.Fatalf("a touch of %v has the code %d, or what it answers is no heat", s, code)
	}
	return x
}

func decay(t *testing.T, heat []int) []int {
	t.Helper()
	x, code := impl.Decay(heat)
	if code != impl.OK || !impl.HeatOK(x) {
		t.Fatalf("Decay has the code %d, or what it answers is no heat", code)
	}
	return x
}

// spotsOf are the spots of a tier, as an image maps them.
func spotsOf(m impl.Image, tier int) []spot {
	return slices.DeleteFunc(everySpot(), func(s spot) bool { return m.Inodes[s.inode].Map[s.page]%4 != tier })
}

// pickByHand sorts all spots of a tier by their heat; false if there are none.
func pickByHand(m impl.Image, heat []int, tier int) (spot, bool) {
	list := spotsOf(m, tier)
	slices.SortStableFunc(list, func(a, b spot) int {
		if tier == impl.TierBlk {
			a, b = b, a
		}
		return cmp.Compare(heat[a.at()], heat[b.at()])
	})
	if len(list) == 0 {
		return spot{}, false
	}
	return list[0], true
}

// picker is one of the two calls that pick, with the tier that it picks from.
type picker struct {
	name string
	call func(impl.Image, []int) (int, int, int)
	tier int
}

func pickers() []picker {
	return []picker{{"PickCold", impl.PickCold, impl.TierPm}, {"PickHot", impl.PickHot, impl.TierBlk}}
}

func (p picker) asked(m impl.Image, heat []int) asked { return ask(p.name, p.call, m, heat) }

func (p picker) want(t *testing.T, where string, m impl.Image, heat []int, want spot) {
	t.Helper()
	inode, page, code := p.call(m, heat)
	if got := (spot{inode, page}); got != want || code != impl.OK {
		t.Errorf("%s: %s is %v, code %d, not %v", where, p.name, got, code, want)
	}
}

// wantPicked asks both calls for what is picked by hand.
func wantPicked(t *testing.T, where string, m impl.Image, heat []int) {
	t.Helper()
	for _, p := range pickers() {
		if s, ok := pickByHand(m, heat, p.tier); ok {
			p.want(t, where, m, heat, s)
		} else {
			wantCode(t, where, p.asked(m, heat), impl.ErrNone)
		}
	}
}

// mover is one of the two plans that move, with the tiers that it moves from and to.
type mover struct {
	name     string
	call     func(impl.Devices, int, int) ([]impl.Micro, int)
	from, to int
}

func demote() mover { return mover{"PlanDemote", impl.PlanDemote, impl.TierPm, impl.TierBlk} }

func promote() mover { return mover{"PlanPromote", impl.PlanPromote, impl.TierBlk, impl.TierPm} }

func movers() []mover { return []mover{demote(), promote()} }

func (v mover) asked(d impl.Devices, s spot) asked { return ask(v.name, v.call, d, s.inode, s.page) }

// firstFree is an entry of the tier that is mapped nowhere; 0 if there is none.
func firstFree(m impl.Image, tier int) int {
	for _, entry := range everyAddress() {
		if entry%4 == tier && !isMapped(m, entry) {
			return entry
		}
	}
	return 0
}

// byHand plans a move a second time, on devices that have the image and spots that are some.
func (v mover) byHand(m impl.Image, d impl.Devices, s spot) ([]impl.Micro, int) {
	entry := m.Inodes[s.inode].Map[s.page]
	if entry%4 != v.from {
		return nil, impl.ErrNone
	}
	free := firstFree(m, v.to)
	if free == 0 {
		return nil, impl.ErrFull
	}
	value := contentsByHand(m, d)[s.inode][s.page]
	at := 48 + 12*s.inode + 3 + s.page
	return append(stepsOnto(free, value), storeStep(at, free), flushStep(at), fenceStep()), impl.OK
}

func (v mover) wantSteps(t *testing.T, where string, d impl.Devices, s spot, want ...impl.Micro) {
	t.Helper()
	if got, code := v.call(d, s.inode, s.page); code != impl.OK || !slices.Equal(got, want) {
		t.Errorf("%s: %s of %v has the steps %v, code %d, not %v", where, v.name, s, got, code, want)
	}
}

// wantMoved holds a move's steps against a second telling, and asks that behind them all files are as they were and the page is of the other tier; it answers the devices behind it.
func (v mover) wantMoved(t *testing.T, where string, d impl.Devices, s spot) (impl.Devices, int) {
	t.Helper()
	where = fmt.Sprintf("%s: %s of %v", where, v.name, s)
	m := imageByHand(t, where, d)
	want, wanted := v.byHand(m, d, s)
	if wanted != impl.OK {
		wantCode(t, where, v.asked(d, s), wanted)
		return d, wanted
	}
	v.wantSteps(t, where, d, s, want...)
	after := do(t, d, want...)
	moved := cloneImage(m)
	moved.Inodes[s.inode].Map[s.page] = firstFree(m, v.to)
	if got := imageByHand(t, where, after); !sameImage(got, moved) {
		t.Fatalf("%s: more than the page is elsewhere: %v", where, got)
	}
	wantContents(t, where, after, pathsByHand(m), contentsByHand(m, d))
	if isSettled(d.Pm) && len(d.Blk.Pending) == 0 && (!isSettled(after.Pm) || len(after.Blk.Pending) > 0) {
		t.Fatalf("%s: not all is sure", where)
	}
	return after, impl.OK
}

// moved is behind a move that has no code.
func (v mover) moved(t *testing.T, where string, d impl.Devices, s spot) impl.Devices {
	t.Helper()
	after, code := v.wantMoved(t, where, d, s)
	if code != impl.OK {
		t.Fatalf("%s: %s of %v has the code %d", where, v.name, s, code)
	}
	return after
}
