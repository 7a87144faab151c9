package tests

import (
	"fmt"
	"maps"
	"slices"
	"testing"

	"loop.example/g00410/impl"
)

func TestP10HeatAsItBegins(t *testing.T) {
	heat := impl.NewHeat()
	if !slices.Equal(heat, evenHeat(1)) || !impl.HeatOK(heat) {
		t.Errorf("NewHeat is %v", heat)
	}
	if impl.MaxHeat != mostHeat {
		t.Errorf("MaxHeat is %d", impl.MaxHeat)
	}
}

func TestP10TouchedIsWarmer(t *testing.T) {
	for _, s := range everySpot() {
		for h := range mostHeat + 1 {
			heat := heatWith(3, map[spot]int{s: h})
			got := touch(t, heat, s)
			if want := heatWith(3, map[spot]int{s: min(h+8, 64)}); !slices.Equal(got, want) {
				t.Fatalf("a touch of %v of heat %d: %v", s, h, got)
			}
			if h < mostHeat && got[s.at()] <= h {
				t.Fatalf("a touch of %v of heat %d is no warmer", s, h)
			}
		}
	}
	for at, h := range map[int]int{0: 8, 1: 9, 55: 63, 56: 64, 57: 64, 63: 64, 64: 64} {
		if got := touch(t, evenHeat(at), spot{lastInode, 7}); got[allHeat-1] != h || got[allHeat-2] != at {
			t.Errorf("a touch of heat %d has %d", at, got[allHeat-1])
		}
	}
}

func TestP10TouchedUntilItIsHottest(t *testing.T) {
	for _, s := range []spot{{0, 0}, {1, 2}, {lastInode, 7}} {
		heat := impl.NewHeat()
		for _, want := range []int{9, 17, 25, 33, 41, 49, 57, 64, 64, 64} {
			heat = touch(t, heat, s)
			if !slices.Equal(heat, heatWith(1, map[spot]int{s: want})) {
				t.Fatalf("touches of %v: not %d alone: %v", s, want, heat)
			}
		}
	}
}

func TestP10Decay(t *testing.T) {
	for h := range mostHeat + 1 {
		if got := decay(t, evenHeat(h)); !slices.Equal(got, evenHeat(h/2)) {
			t.Errorf("Decay of %d is %v", h, got)
		}
	}
	halves := map[spot]int{{0, 0}: 1, {0, 1}: 2, {3, 0}: 3, {3, 7}: 63, {9, 1}: 64, {lastInode, 6}: 33, {lastInode, 7}: 9}
	want := map[spot]int{{0, 0}: 0, {0, 1}: 1, {3, 0}: 1, {3, 7}: 31, {9, 1}: 32, {lastInode, 6}: 16, {lastInode, 7}: 4}
	if got := decay(t, heatWith(7, halves)); !slices.Equal(got, heatWith(3, want)) {
		t.Errorf("Decay of odd numbers is %v", got)
	}
}

func TestP10DecayToNothing(t *testing.T) {
	s := spot{5, 5}
	for _, run := range [][]int{{64, 32, 16, 8, 4, 2, 1, 0, 0}, {63, 31, 15, 7, 3, 1, 0, 0}, {1, 0, 0}, {0, 0}} {
		heat := heatWith(run[0], map[spot]int{s: 0})
		for _, want := range run[1:] {
			heat = decay(t, heat)
			if !slices.Equal(heat, heatWith(want, map[spot]int{s: 0})) {
				t.Errorf("it cools down from %d: %v", run[0], heat)
			}
		}
		if heat = touch(t, heat, s); !slices.Equal(heat, heatWith(0, map[spot]int{s: 8})) {
			t.Errorf("a touch of what is cold: %v", heat)
		}
	}
}

func TestP10RolledTouches(t *testing.T) {
	d := &dice{state: 100}
	heat, want, hottest := impl.NewHeat(), evenHeat(1), 0
	for n := range 4000 {
		if d.roll(150) == 0 {
			heat = decay(t, heat)
			for at := range want {
				want[at] >>= 1
			}
		} else {
			s := spot{d.roll(4) * 5, d.roll(8)}
			heat = touch(t, heat, s)
			if want[s.at()] += 8; want[s.at()] > 64 {
				want[s.at()] = 64
			}
		}
		if !slices.Equal(heat, want) {
			t.Fatalf("step %d: the heat is %v, not %v", n, heat, want)
		}
		hottest = max(hottest, slices.Max(heat))
	}
	if hottest != mostHeat {
		t.Errorf("the heat came to %d alone", hottest)
	}
}

// In smallImage these are of TierPm: {1, 0}, {15, 0}, {15, 3}, {15, 7}; of TierBlk: {1, 2}, {15, 1}, {15, 4}.
func TestP10SpotsOfBothTiers(t *testing.T) {
	m := smallImage()
	if got := spotsOf(m, impl.TierPm); !slices.Equal(got, []spot{{1, 0}, {15, 0}, {15, 3}, {15, 7}}) {
		t.Errorf("of the memory: %v", got)
	}
	if got := spotsOf(m, impl.TierBlk); !slices.Equal(got, []spot{{1, 2}, {15, 1}, {15, 4}}) {
		t.Errorf("of the block device: %v", got)
	}
}

func TestP10ColdestAndHottest(t *testing.T) {
	m, cold, hot := smallImage(), pickers()[0], pickers()[1]
	for _, s := range spotsOf(m, impl.TierPm) {
		for _, h := range []int{1, 2, 33, 64} {
			cold.want(t, "one that is less", m, heatWith(h, map[spot]int{s: h - 1}), s)
			cold.want(t, "nothing", m, heatWith(h, map[spot]int{s: 0}), s)
		}
	}
	for _, s := range spotsOf(m, impl.TierBlk) {
		for _, h := range []int{0, 1, 32, 63} {
			hot.want(t, "one that is more", m, heatWith(h, map[spot]int{s: h + 1}), s)
			hot.want(t, "the most", m, heatWith(h, map[spot]int{s: 64}), s)
		}
	}
	falling := map[spot]int{{1, 0}: 40, {15, 0}: 30, {15, 3}: 20, {15, 7}: 10, {1, 2}: 40, {15, 1}: 30, {15, 4}: 20}
	cold.want(t, "falling", m, heatWith(0, falling), spot{15, 7})
	hot.want(t, "falling", m, heatWith(64, falling), spot{1, 2})
	rising := map[spot]int{{1, 0}: 10, {15, 0}: 20, {15, 3}: 30, {15, 7}: 40, {1, 2}: 20, {15, 1}: 30, {15, 4}: 40}
	cold.want(t, "rising", m, heatWith(0, rising), spot{1, 0})
	hot.want(t, "rising", m, heatWith(64, rising), spot{15, 4})
	for _, h := range rightHeats() {
		for _, m := range rightImages() {
			wantPicked(t, m.name+", "+h.name, m.image, h.heat)
		}
	}
}

// Of pages with the same heat the first one is picked, be they of one inode or of two.
func TestP10FirstOfTheSameHeat(t *testing.T) {
	m, cold, hot := smallImage(), pickers()[0], pickers()[1]
	for h := range mostHeat + 1 {
		cold.want(t, "all alike", m, evenHeat(h), spot{1, 0})
		hot.want(t, "all alike", m, evenHeat(h), spot{1, 2})
	}
	for _, h := range []int{1, 30, 64} {
		cold.want(t, "two of one inode", m, heatWith(h, map[spot]int{{15, 3}: h - 1, {15, 7}: h - 1}), spot{15, 3})
		cold.want(t, "three of one inode", m, heatWith(h-1, map[spot]int{{1, 0}: h}), spot{15, 0})
		cold.want(t, "two of two inodes", m, heatWith(h, map[spot]int{{1, 0}: h - 1, {15, 7}: h - 1}), spot{1, 0})
	}
	for _, h := range []int{0, 30, 63} {
		hot.want(t, "two of one inode", m, heatWith(h, map[spot]int{{15, 1}: h + 1, {15, 4}: h + 1}), spot{15, 1})
		hot.want(t, "two of two inodes", m, heatWith(h, map[spot]int{{1, 2}: h + 1, {15, 4}: h + 1}), spot{1, 2})
	}
	// The addresses fall, the inodes and pages rise.
	m = withFiles([]int{pageEntry(9), sectorEntry(9)}, []int{sectorEntry(8), pageEntry(8), pageEntry(0)}, []int{0, 0, sectorEntry(0), pageEntry(1)})
	cold.want(t, "falling addresses", m, evenHeat(5), spot{1, 0})
	hot.want(t, "falling addresses", m, evenHeat(5), spot{1, 1})
	heat := heatWith(5, map[spot]int{{1, 0}: 6, {1, 1}: 4})
	cold.want(t, "the first inode is warmer", m, heat, spot{2, 1})
	hot.want(t, "the first inode is colder", m, heat, spot{2, 0})
}

// The heat of pages that are nowhere, or of the other tier, counts for nothing.
func TestP10HeatOfOthers(t *testing.T) {
	m, cold, hot := smallImage(), pickers()[0], pickers()[1]
	down, up := spotsOf(m, impl.TierPm), spotsOf(m, impl.TierBlk)
	for _, s := range everySpot() {
		if !slices.Contains(down, s) {
			cold.want(t, fmt.Sprint("less at ", s), m, heatWith(9, map[spot]int{s: 0}), spot{1, 0})
			cold.want(t, fmt.Sprint("more at ", s), m, heatWith(9, map[spot]int{s: 64}), spot{1, 0})
		}
		if !slices.Contains(up, s) {
			hot.want(t, fmt.Sprint("less at ", s), m, heatWith(9, map[spot]int{s: 0}), spot{1, 2})
			hot.want(t, fmt.Sprint("more at ", s), m, heatWith(9, map[spot]int{s: 64}), spot{1, 2})
		}
	}
	warm, cool := map[spot]int{}, map[spot]int{}
	for _, s := range slices.Concat(down, up) {
		warm[s], cool[s] = 50+s.page, 10-s.page
	}
	cold.want(t, "all others are colder", m, heatWith(0, warm), spot{1, 0})
	hot.want(t, "all others are colder", m, heatWith(0, warm), spot{15, 4})
	cold.want(t, "all others are warmer", m, heatWith(64, cool), spot{15, 7})
	hot.want(t, "all others are warmer", m, heatWith(64, cool), spot{15, 1})
}

func TestP10PickedOfOneTierAlone(t *testing.T) {
	none := []namedImage{{"the root alone", bareImage()}, {"a chain", chainImage()}, {"files without pages", withFiles(nil, []int{0}, make([]int, 8))}}
	for _, h := range rightHeats() {
		for _, m := range none {
			for _, p := range pickers() {
				wantCode(t, m.name+", "+h.name, p.asked(m.image, h.heat), impl.ErrNone)
			}
		}
		for _, p := range pickers() {
			wantCode(t, "the other tier alone, "+h.name, p.asked(filled(impl.TierPm+impl.TierBlk-p.tier, 9), h.heat), impl.ErrNone)
			m := filled(p.tier, 9)
			s, _ := pickByHand(m, h.heat, p.tier)
			p.want(t, "one tier alone, "+h.name, m, h.heat, s)
		}
		wantPicked(t, "full, "+h.name, fullImage(), h.heat)
	}
}

func TestP10StepsOfDemote(t *testing.T) {
	small, s, f, fence := housed(smallImage()), storeStep, flushStep, fenceStep()
	demote().wantSteps(t, "the first page", small, spot{1, 0}, writeStep(1, 1312), barrierStep(), s(63, 6), f(63), fence)
	demote().wantSteps(t, "the last page of the last inode", small, spot{15, 7}, writeStep(1, 1314), barrierStep(), s(238, 6), f(238), fence)
	demote().wantSteps(t, "the last page of the memory", small, spot{15, 0}, writeStep(1, 1335), barrierStep(), s(231, 6), f(231), fence)
	demote().wantSteps(t, "one sector is free", housed(packed(0, 1)), spot{15, 3}, writeStep(30, 1313), barrierStep(), s(234, 122), f(234), fence)
	first := housed(withFiles([]int{pageEntry(5)}))
	demote().wantSteps(t, "the first sector", first, spot{1, 0}, writeStep(0, 1317), barrierStep(), s(63, 2), f(63), fence)
}

func TestP10StepsOfPromote(t *testing.T) {
	small, s, f, fence := housed(smallImage()), storeStep, flushStep, fenceStep()
	promote().wantSteps(t, "the first sector", small, spot{1, 2}, s(315, 1000), f(315), fence, s(65, 13), f(65), fence)
	promote().wantSteps(t, "the last sector", small, spot{15, 1}, s(315, 1031), f(315), fence, s(232, 13), f(232), fence)
	promote().wantSteps(t, "between", small, spot{15, 4}, s(315, 1002), f(315), fence, s(235, 13), f(235), fence)
	promote().wantSteps(t, "one page is free", housed(packed(1, 0)), spot{15, 4}, s(334, 1002), f(334), fence, s(235, 89), f(235), fence)
	first := housed(withFiles(nil, []int{0, sectorEntry(5)}))
	promote().wantSteps(t, "the first page", first, spot{2, 1}, s(312, 1005), f(312), fence, s(76, 1), f(76), fence)
}

func TestP10MovedHasTheSameValue(t *testing.T) {
	hosts := []namedPair{{"the root alone", impl.NewDevices()}, {"tree", housed(treeImage())}, {"full", housed(fullImage())}}
	for _, h := range roomyHosts() {
		hosts = append(hosts, h.namedPair)
	}
	for _, m := range rightImages() {
		hosts = append(hosts, namedPair{m.name, housed(m.image)})
	}
	for _, h := range hosts {
		for _, s := range everySpot() {
			for _, v := range movers() {
				v.wantMoved(t, h.name, h.devices, s)
			}
		}
	}
}

// The words themselves may be 0 or the greatest one: what is moved is no less somewhere.
func TestP10MovedWordsOfAllKinds(t *testing.T) {
	for _, word := range []int{0, 1, 7, impl.MaxWord - 1} {
		d := done(t, "a file", impl.NewDevices(), makeOp("/a"), writeOp("/a", 3, word), writeOp("/a", 0, 5))
		d = demote().moved(t, "down", d, spot{1, 3})
		wantPages(t, "down", d, "/a", 5, 0, 0, word)
		d = promote().moved(t, "up", d, spot{1, 3})
		wantPages(t, "up", d, "/a", 5, 0, 0, word)
	}
}

func TestP10DownAndUpAgain(t *testing.T) {
	small := housed(smallImage())
	want := map[string][]int{"/f": {1312, 0, 1000}, "/d/g": {1312, 0, 1000}, "/zzzzzz": {1335, 1031, 0, 1313, 1002, 0, 0, 1314}, "/d/d/e": nil}
	for _, s := range spotsOf(smallImage(), impl.TierPm) {
		down := demote().moved(t, "down", small, s)
		up := promote().moved(t, "up again", down, s)
		for path, pages := range want {
			wantPages(t, fmt.Sprint(s, " down"), down, path, pages...)
			wantPages(t, fmt.Sprint(s, " up again"), up, path, pages...)
		}
		promote().wantMoved(t, "twice", up, s)
	}
	for _, s := range spotsOf(smallImage(), impl.TierBlk) {
		up := promote().moved(t, "up", small, s)
		down := demote().moved(t, "down again", up, s)
		for path, pages := range want {
			wantPages(t, fmt.Sprint(s, " up"), up, path, pages...)
			wantPages(t, fmt.Sprint(s, " down again"), down, path, pages...)
		}
		demote().wantMoved(t, "twice", down, s)
	}
}

// What is moved is the word as it is loaded or read, and where it is mapped as the image is loaded.
func TestP10MovedWhatIsNotSure(t *testing.T) {
	small := housed(smallImage())
	stores := do(t, small, storeStep(312, 5), flushStep(312), storeStep(312, 6), writeStep(0, 50), writeStep(0, 60))
	demote().wantSteps(t, "a store", stores, spot{1, 0}, writeStep(1, 6), barrierStep(), storeStep(63, 6), flushStep(63), fenceStep())
	promote().wantSteps(t, "a write", stores, spot{1, 2}, storeStep(315, 60), flushStep(315), fenceStep(), storeStep(65, 13), flushStep(65), fenceStep())
	down := demote().moved(t, "a store", stores, spot{1, 0})
	wantPages(t, "a store", down, "/f", 6, 0, 60)
	up := promote().moved(t, "a write", down, spot{1, 2})
	wantPages(t, "a write", up, "/f", 6, 0, 60)
	wantPages(t, "up again", promote().moved(t, "up again", up, spot{1, 0}), "/f", 6, 0, 60)
	onto := do(t, small, writeStep(1, 77), storeStep(315, 78), storeStep(315, 79), flushStep(315))
	wantPages(t, "onto a write", demote().moved(t, "onto a write", onto, spot{15, 0}), "/zzzzzz", 1335, 1031, 0, 1313, 1002, 0, 0, 1314)
	wantPages(t, "onto a store", promote().moved(t, "onto a store", onto, spot{15, 1}), "/zzzzzz", 1335, 1031, 0, 1313, 1002, 0, 0, 1314)
	mapped := do(t, small, storeStep(64, pageEntry(3)), storeStep(231, sectorEntry(1)))
	demote().wantSteps(t, "mapped as it is loaded", mapped, spot{1, 1}, writeStep(3, 1315), barrierStep(), storeStep(64, 14), flushStep(64), fenceStep())
	promote().wantSteps(t, "a sector as it is loaded", mapped, spot{15, 0}, storeStep(316, 1001), flushStep(316), fenceStep(), storeStep(231, 17), flushStep(231), fenceStep())
	wantCode(t, "no page as it is loaded", demote().asked(mapped, spot{15, 0}), impl.ErrNone)
	wantCode(t, "no hole as it is loaded", promote().asked(mapped, spot{1, 1}), impl.ErrNone)
	m := imageByHand(t, "mapped", mapped)
	wantPicked(t, "mapped as it is loaded", m, heatWith(9, map[spot]int{{1, 1}: 1, {15, 0}: 30}))
}

// Wherever a move crashes all pages have their values, without a replay.
func TestP10MovesCrash(t *testing.T) {
	d := &dice{state: 101}
	hosts := []namedPair{{"small", housed(smallImage())}, {"little room", housed(packed(1, 1))}}
	for _, h := range hosts {
		m := imageByHand(t, h.name, h.devices)
		paths, contents := pathsByHand(m), contentsByHand(m, h.devices)
		for _, v := range movers() {
			for _, s := range spotsOf(smallImage(), v.from) {
				steps, _ := v.call(h.devices, s.inode, s.page)
				if len(steps) == 0 {
					t.Fatalf("%s: %s of %v has no steps", h.name, v.name, s)
				}
				for n := range len(steps) + 1 {
					cut := do(t, h.devices, steps[:n]...)
					for _, keeps := range crashKeeps(d)[:13] {
						where := fmt.Sprintf("%s: %s of %v, %d steps, keeps %v", h.name, v.name, s, n, keeps)
						after := impl.Devices{Pm: crash(t, cut.Pm, keeps...), Blk: crashBlk(t, cut.Blk, keeps...)}
						if !sameContents(contentsByHand(imageByHand(t, where, after), after), contents) {
							t.Fatalf("%s: the files are others", where)
						}
						if n%3 == 0 {
							wantContents(t, where, after, paths, contents)
						}
					}
				}
			}
		}
	}
}

// drained moves what a call picks until there is no more, or no more room, and answers what was picked in its order, and the last code.
func drained(t *testing.T, where string, d impl.Devices, p picker, v mover, heat []int) (impl.Devices, []spot, int) {
	t.Helper()
	var list []spot
	for {
		m := imageByHand(t, where, d)
		wantPicked(t, where, m, heat)
		inode, page, code := p.call(m, heat)
		if code != impl.OK {
			return d, list, code
		}
		s := spot{inode, page}
		after, code := v.wantMoved(t, where, d, s)
		if code != impl.OK {
			return d, list, code
		}
		d, list = after, append(list, s)
	}
}

func TestP10ColdestGoesDownHottestUp(t *testing.T) {
	cold, hot := pickers()[0], pickers()[1]
	own := map[spot]int{{1, 0}: 40, {15, 0}: 12, {15, 3}: 12, {15, 7}: 3, {1, 2}: 12, {15, 1}: 64, {15, 4}: 0}
	heat := heatWith(1, own)
	d, list, code := drained(t, "down", housed(smallImage()), cold, demote(), heat)
	if want := []spot{{15, 7}, {15, 0}, {15, 3}, {1, 0}}; !slices.Equal(list, want) || code != impl.ErrNone {
		t.Errorf("what went down is %v, code %d", list, code)
	}
	d, list, code = drained(t, "up", d, hot, promote(), heat)
	if want := []spot{{15, 1}, {1, 0}, {1, 2}, {15, 0}, {15, 3}, {15, 7}, {15, 4}}; !slices.Equal(list, want) || code != impl.ErrNone {
		t.Errorf("what went up is %v, code %d", list, code)
	}
	wantPages(t, "up", d, "/zzzzzz", 1335, 1031, 0, 1313, 1002, 0, 0, 1314)
	_, list, code = drained(t, "no room", housed(packed(0, 2)), cold, demote(), heatWith(50, own))
	if want := []spot{{15, 7}, {15, 0}}; !slices.Equal(list, want) || code != impl.ErrFull {
		t.Errorf("what went down is %v, code %d", list, code)
	}
	_, list, code = drained(t, "full", housed(fullImage()), hot, promote(), heat)
	if len(list) > 0 || code != impl.ErrFull {
		t.Errorf("what went up is %v, code %d", list, code)
	}
}

// A page that goes leaves room in its own tier, which the next move has.
func TestP10MovedUntilATierIsFull(t *testing.T) {
	d, list, code := drained(t, "all pages down", housed(packed(0, 29)), pickers()[0], demote(), evenHeat(1))
	if len(list) != impl.Pages || code != impl.ErrNone {
		t.Errorf("%d pages went down, code %d", len(list), code)
	}
	d, list, code = drained(t, "all up", d, pickers()[1], promote(), risingHeat())
	if len(list) != impl.Pages || code != impl.ErrFull {
		t.Errorf("%d pages went up, code %d", len(list), code)
	}
	if got := spotsOf(imageByHand(t, "all up", d), impl.TierBlk); len(got) != 3 {
		t.Errorf("these are still down: %v", got)
	}
}

func TestP10RolledPicks(t *testing.T) {
	d := &dice{state: 102}
	count := map[int]int{}
	for n := range 3000 {
		m := rollImage(d)
		heat := rollHeat(d, 1+d.roll(65))
		wantPicked(t, fmt.Sprint("image ", n), m, heat)
		for _, p := range pickers() {
			_, _, code := p.call(m, heat)
			count[code]++
		}
	}
	if count[impl.OK] < 1000 || count[impl.ErrNone] < 100 {
		t.Errorf("the codes were %v", count)
	}
}

func TestP10RolledMoves(t *testing.T) {
	d := &dice{state: 103}
	count := map[int]int{}
	for n := range 300 {
		m := rollImage(d)
		if n%3 == 0 {
			m = packed(d.roll(2), d.roll(2))
		}
		devices := rollUnsure(t, d, housed(m))
		for step := range 6 {
			v := movers()[d.roll(2)]
			list := spotsOf(imageByHand(t, "rolled", devices), v.from)
			if len(list) == 0 || d.roll(6) == 0 {
				list = everySpot()
			}
			after, code := v.wantMoved(t, fmt.Sprint("image ", n, ", step ", step), devices, list[d.roll(len(list))])
			devices = after
			count[code]++
		}
	}
	for _, code := range []int{impl.OK, impl.ErrNone, impl.ErrFull} {
		if count[code] < 50 {
			t.Errorf("the codes were %v", count)
		}
	}
}

// Moves among operations are not to be seen by them: the operations answer as they do without.
func TestP10MovesAmongOperations(t *testing.T) {
	d := &dice{state: 104}
	moves := 0
	for n := range 12 {
		plain, tiered := impl.NewDevices(), impl.NewDevices()
		for step := range 60 {
			where := fmt.Sprint("run ", n, ", step ", step)
			o := rollOp(d, imageByHand(t, where, plain))
			x, a := wantDone(t, where, plain, o)
			y, b := wantDone(t, where, tiered, o)
			if !sameAnswer(a, b) {
				t.Fatalf("%s: %+v has the answer %v, not %v", where, o, b, a)
			}
			plain, tiered = x, y
			v := movers()[d.roll(2)]
			if list := spotsOf(imageByHand(t, where, tiered), v.from); len(list) > 0 {
				tiered, _ = v.wantMoved(t, where, tiered, list[d.roll(len(list))])
				moves++
			}
		}
		m, moved := imageByHand(t, "behind", plain), imageByHand(t, "behind", tiered)
		if !maps.Equal(pathsByHand(m), pathsByHand(moved)) || !sameContents(contentsByHand(m, plain), contentsByHand(moved, tiered)) {
			t.Fatalf("run %d: the files are others", n)
		}
	}
	if moves < 200 {
		t.Errorf("only %d moves were made", moves)
	}
}
