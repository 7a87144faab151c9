package tests

import (
	"fmt"
	"slices"
	"testing"

	"loop.example/g00410/impl"
)

func touchCall(heat []int, s spot) asked { return ask("Touch", impl.Touch, heat, s.inode, s.page) }

func decayCall(heat []int) asked { return ask("Decay", impl.Decay, heat) }

// heatCalls are all calls of chapter 10 that take heat and have a code.
func heatCalls(m impl.Image, heat []int, s spot) []asked {
	calls := []asked{touchCall(heat, s), decayCall(heat)}
	for _, p := range pickers() {
		calls = append(calls, p.asked(m, heat))
	}
	return calls
}

func TestP1RightHeat(t *testing.T) {
	for _, h := range rightHeats() {
		if !impl.HeatOK(h.heat) {
			t.Errorf("%s: HeatOK is false", h.name)
		}
		wantCode(t, h.name, decayCall(h.heat), impl.OK)
		for _, s := range everySpot() {
			wantCode(t, h.name, touchCall(h.heat, s), impl.OK)
		}
	}
	for n := range mostHeat + 1 {
		for _, s := range everySpot() {
			if !impl.HeatOK(heatWith(1, map[spot]int{s: n})) {
				t.Fatalf("%d at %v: HeatOK is false", n, s)
			}
		}
	}
	for n := range 3 * allHeat {
		if got := impl.HeatOK(slices.Repeat([]int{1}, n)); got != (n == allHeat) {
			t.Errorf("HeatOK of %d numbers is %v", n, got)
		}
	}
}

// Each two faults at once: heat that is none, beside a spot that is none, and beside an image that is not right or has no pages.
func TestP1WrongHeat(t *testing.T) {
	for _, h := range wrongHeats() {
		if impl.HeatOK(h.heat) {
			t.Errorf("%s: HeatOK is true", h.name)
		}
		for _, s := range append(noSpots(), everySpot()...) {
			wantCode(t, h.name, touchCall(h.heat, s), impl.ErrBad)
		}
		for _, m := range []impl.Image{smallImage(), fullImage(), bareImage(), wronged(smallImage()), {}} {
			for _, c := range heatCalls(m, h.heat, spot{1, 0}) {
				wantCode(t, h.name, c, impl.ErrBad)
			}
		}
	}
}

// That a list is too long is told ahead of all else.
func TestP1LongHeat(t *testing.T) {
	for _, h := range longHeats() {
		if impl.HeatOK(h.heat) {
			t.Errorf("%s: HeatOK is true", h.name)
		}
		for _, s := range append(noSpots(), spot{1, 0}) {
			for _, m := range []impl.Image{smallImage(), bareImage(), wronged(smallImage()), {}} {
				for _, c := range heatCalls(m, h.heat, s) {
					wantCode(t, h.name, c, impl.ErrLong)
				}
			}
		}
	}
}

func TestP1TouchesOfNoSpots(t *testing.T) {
	for _, h := range rightHeats() {
		for _, s := range noSpots() {
			wantCode(t, fmt.Sprint(h.name, ", ", s), touchCall(h.heat, s), impl.ErrRange)
		}
	}
}

// An image that is not right is told ahead of one that has no pages.
func TestP1PicksOfWrongImages(t *testing.T) {
	for _, m := range wrongImages() {
		for _, h := range rightHeats() {
			for _, p := range pickers() {
				wantCode(t, m.name+", "+h.name, p.asked(m.image, h.heat), impl.ErrBad)
			}
		}
	}
	for _, p := range pickers() {
		wantCode(t, "no pages, and wrong", p.asked(wronged(bareImage()), evenHeat(1)), impl.ErrBad)
		wantCode(t, "no pages", p.asked(bareImage(), evenHeat(1)), impl.ErrNone)
		wantCode(t, "pages", p.asked(smallImage(), evenHeat(1)), impl.OK)
	}
}

func TestP1MovesOfWrongHosts(t *testing.T) {
	list := append(noSpots(), spot{1, 0}, spot{1, 2}, spot{0, 0}, spot{6, 0}, spot{4, 0}, spot{15, 7})
	for _, h := range wrongHosts() {
		for _, s := range list {
			for _, v := range movers() {
				wantCode(t, fmt.Sprint(h.name, ", ", s), v.asked(h.devices, s), impl.ErrBad)
			}
		}
	}
	full := housed(fullImage())
	full.Blk.Sectors = full.Blk.Sectors[1:]
	for _, s := range everySpot() {
		for _, v := range movers() {
			wantCode(t, "full, and a sector too few", v.asked(full, s), impl.ErrBad)
			wantCode(t, "full, and a link too many", v.asked(housed(wronged(fullImage())), s), impl.ErrBad)
		}
	}
}

// codeOfMove is of a spot that is one: that the page is not of the tier is told ahead of no room.
func codeOfMove(m impl.Image, v mover, s spot) int {
	switch {
	case m.Inodes[s.inode].Map[s.page]%4 != v.from:
		return impl.ErrNone
	case firstFree(m, v.to) == 0:
		return impl.ErrFull
	}
	return impl.OK
}

// Each two faults at once: a spot that is none, a page that is of the other tier or nowhere, and no room.
func TestP1CodesOfMoves(t *testing.T) {
	codes := map[string]int{}
	for _, h := range append(roomyHosts(), roomyHost{namedPair{"full", housed(fullImage())}, 0}, roomyHost{namedPair{"the root alone", impl.NewDevices()}, 0}) {
		m := imageByHand(t, h.name, h.devices)
		for _, v := range movers() {
			for _, s := range noSpots() {
				wantCode(t, fmt.Sprint(h.name, ", ", s), v.asked(h.devices, s), impl.ErrRange)
			}
			for _, s := range everySpot() {
				code := codeOfMove(m, v, s)
				wantCode(t, fmt.Sprint(h.name, ", ", s), v.asked(h.devices, s), code)
				codes[fmt.Sprint(v.name, " ", code)]++
			}
		}
	}
	for _, v := range movers() {
		for _, code := range []int{impl.OK, impl.ErrNone, impl.ErrFull} {
			if codes[fmt.Sprint(v.name, " ", code)] == 0 {
				t.Errorf("%s never had the code %d", v.name, code)
			}
		}
	}
}

// What a move is of is nothing: a directory, a free inode, an empty file, a page that is nowhere, one at the end and behind it.
func TestP1MovesOfWhatIsNowhere(t *testing.T) {
	list := []spot{{0, 0}, {0, 7}, {2, 0}, {5, 3}, {6, 0}, {14, 7}, {4, 0}, {1, 1}, {15, 2}, {15, 5}, {15, 6}, {1, 3}, {1, 4}, {1, 7}}
	for _, h := range roomyHosts() {
		for _, s := range list {
			if h.name != "small" && (s.inode == 6 || s.inode == 14) {
				continue
			}
			for _, v := range movers() {
				wantCode(t, fmt.Sprint(h.name, ", ", s), v.asked(h.devices, s), impl.ErrNone)
			}
		}
	}
	for _, v := range movers() {
		for _, s := range spotsOf(smallImage(), v.to) {
			wantCode(t, "of the other tier", v.asked(housed(smallImage()), s), impl.ErrNone)
			wantCode(t, "of the other tier, full", v.asked(housed(packed(0, 0)), s), impl.ErrNone)
		}
		for _, s := range spotsOf(smallImage(), v.from) {
			wantCode(t, "no room", v.asked(housed(packed(0, 0)), s), impl.ErrFull)
		}
	}
	for _, s := range spotsOf(smallImage(), impl.TierPm) {
		wantCode(t, "no sector, but pages", demote().asked(housed(packed(20, 0)), s), impl.ErrFull)
		wantCode(t, "no page, but sectors", demote().asked(housed(packed(0, 29)), s), impl.OK)
	}
	for _, s := range spotsOf(smallImage(), impl.TierBlk) {
		wantCode(t, "no page, but sectors", promote().asked(housed(packed(0, 29)), s), impl.ErrFull)
		wantCode(t, "no sector, but pages", promote().asked(housed(packed(20, 0)), s), impl.OK)
	}
}

// tierCalls are all calls of chapter 10.
func tierCalls(d impl.Devices, m impl.Image, heat []int, s spot) []asked {
	calls := append(heatCalls(m, heat, s), ask("NewHeat", impl.NewHeat), ask("HeatOK", impl.HeatOK, heat))
	for _, v := range movers() {
		calls = append(calls, v.asked(d, s))
	}
	return calls
}

func TestP1TiersUntouched(t *testing.T) {
	hosts := []namedPair{{"the root alone", impl.NewDevices()}, {"tree", housed(treeImage())}, {"full", housed(fullImage())}}
	for _, h := range roomyHosts() {
		hosts = append(hosts, h.namedPair)
	}
	busy := unsure(housed(smallImage()), []impl.Store{{At: 312, Value: 5}, {At: 97, Value: 4, Flushed: true}}, []impl.Sector{{At: 0, Value: 6}})
	hosts = append(hosts, namedPair{"busy", busy}, namedPair{"a link too many", housed(wronged(smallImage()))}, namedPair{"nothing", impl.Devices{}}, namedPair{"noughts", zeroPair()})
	for _, h := range hosts {
		m, _ := impl.ReadImage(h.devices.Pm)
		var calls []asked
		for _, x := range rightHeats() {
			for _, s := range []spot{{0, 0}, {1, 0}, {1, 1}, {1, 2}, {15, 0}, {15, 1}, {15, 7}, {-1, 0}, {0, 8}} {
				calls = append(calls, tierCalls(h.devices, m, x.heat, s)...)
			}
		}
		wantPromise1(t, h.name, calls)
	}
}

func TestP1TiersOfWrongArgumentsUntouched(t *testing.T) {
	var calls []asked
	for _, h := range wrongHosts() {
		for _, v := range movers() {
			calls = append(calls, v.asked(h.devices, spot{1, 0}))
		}
	}
	for _, m := range wrongImages() {
		calls = append(calls, heatCalls(m.image, evenHeat(1), spot{1, 0})...)
	}
	for _, h := range append(wrongHeats(), longHeats()...) {
		calls = append(calls, tierCalls(housed(smallImage()), smallImage(), h.heat, spot{1, 0})...)
	}
	for _, s := range noSpots() {
		calls = append(calls, tierCalls(housed(smallImage()), smallImage(), evenHeat(1), s)...)
	}
	wantPromise1(t, "wrong devices, images, heat and spots", calls)
}
