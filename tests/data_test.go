package tests

import (
	"fmt"
	"slices"
	"testing"

	"loop.example/g00410/impl"
)

func TestP9ReadPages(t *testing.T) {
	d := housed(smallImage())
	wantPages(t, "both tiers and nowhere", d, "/f", 1312, 0, 1000)
	wantPages(t, "its other name", d, "/d/g", 1312, 0, 1000)
	wantPages(t, "empty", d, "/d/d/e")
	wantPages(t, "all pages", d, "/zzzzzz", 1335, 1031, 0, 1313, 1002, 0, 0, 1314)
	m := smallImage()
	m.Inodes[4].Size = 8
	wantPages(t, "eight pages that are nowhere", housed(m), "/d/d/e", 0, 0, 0, 0, 0, 0, 0, 0)
	for _, m := range rightImages() {
		d := housed(m.image)
		wantContents(t, m.name, d, pathsByHand(m.image), contentsByHand(m.image, d))
	}
	wantContents(t, "tree", housed(treeImage()), pathsByHand(treeImage()), map[int][]int{9: {1315}, 10: {1003, 0}, 13: nil, 14: nil})
}

// The newest store and the newest write of a page count, and the image is as it is loaded.
func TestP9ReadWhatIsNotSure(t *testing.T) {
	stores := []impl.Store{{At: 312, Value: 5}, {At: 313, Value: 8, Flushed: true}, {At: 312, Value: 6, Flushed: true}, {At: 312, Value: 7}}
	writes := []impl.Sector{{At: 0, Value: 50}, {At: 31, Value: 90}, {At: 0, Value: 60}}
	d := unsure(housed(smallImage()), stores, writes)
	wantPages(t, "stores and writes", d, "/f", 7, 0, 60)
	wantPages(t, "stores and writes", d, "/zzzzzz", 1335, 90, 0, 8, 1002, 0, 0, 1314)
	d = unsure(d, []impl.Store{{At: 64, Value: pageEntry(5)}, {At: 317, Value: 9}}, nil)
	wantPages(t, "a page that is somewhere as it is loaded", d, "/d/g", 7, 9, 60)
	d = unsure(d, []impl.Store{{At: 64, Value: sectorEntry(31)}}, nil)
	if _, code := impl.PagesOf(d, "/f"); code != impl.ErrBad {
		t.Errorf("a sector twice as it is loaded: the code is %d", code)
	}
	d = unsure(d, []impl.Store{{At: 64, Value: 0}, {At: 65, Value: 0}, {At: 61, Value: 1}}, nil)
	wantPages(t, "shorter as it is loaded", d, "/f", 7)
	d = unsure(d, []impl.Store{{At: 61, Value: 8}, {At: 70, Value: sectorEntry(7)}}, []impl.Sector{{At: 7, Value: 3}})
	wantPages(t, "longer as it is loaded", d, "/f", 7, 0, 0, 0, 0, 0, 0, 3)
	wantPages(t, "the words that are sure alone", housed(smallImage()), "/f", 1312, 0, 1000)
}

// A page that is nowhere is 0 whatever the first page and the first sector are.
func TestP9Nowhere(t *testing.T) {
	m := withFiles([]int{0}, []int{0, 0, 0, 0, 0, 0, 0, pageEntry(0)}, []int{sectorEntry(0), 0})
	d := unsure(housed(m), []impl.Store{{At: 312, Value: 77}}, []impl.Sector{{At: 0, Value: 88}})
	wantContents(t, "nowhere", d, pathsByHand(m), map[int][]int{1: {0}, 2: {0, 0, 0, 0, 0, 0, 0, 77}, 3: {88, 0}})
}

func wantWriteSteps(t *testing.T, where string, d impl.Devices, path string, page, value int, want ...impl.Micro) {
	t.Helper()
	if got, code := impl.PlanWrite(d, path, page, value); code != impl.OK || !slices.Equal(got, want) {
		t.Errorf("%s: PlanWrite has the steps %v, code %d, not %v", where, got, code, want)
	}
}

func TestP9StepsOfWrite(t *testing.T) {
	small, s, f, fence := housed(smallImage()), storeStep, flushStep, fenceStep()
	onPage3 := []impl.Micro{s(315, 77), f(315), fence}
	mapWord := []impl.Micro{s(9, 63), s(10, 13), f(9), fence, s(8, 1), f(8), fence, s(63, 13), f(63), fence, s(8, 0), f(8), fence}
	for _, path := range []string{"/f", "/d/g"} {
		wantWriteSteps(t, "a page of the memory", small, path, 0, 77, slices.Concat(onPage3, mapWord)...)
	}
	hole := []impl.Micro{s(9, 64), s(10, 13), f(9), fence, s(8, 1), f(8), fence, s(64, 13), f(64), fence, s(8, 0), f(8), fence}
	wantWriteSteps(t, "a page that is nowhere", small, "/f", 1, 77, slices.Concat(onPage3, hole)...)
	last := []impl.Micro{s(9, 65), s(10, 13), f(9), fence, s(8, 1), f(8), fence, s(65, 13), f(65), fence, s(8, 0), f(8), fence}
	wantWriteSteps(t, "the last page, a sector", small, "/f", 2, 77, slices.Concat(onPage3, last)...)
	next := []impl.Micro{s(9, 66), s(10, 13), s(11, 61), s(12, 4), f(9), fence, s(8, 2), f(8), fence, s(66, 13), s(61, 4), f(66), f(61), fence, s(8, 0), f(8), fence}
	wantWriteSteps(t, "at the end", small, "/f", 3, 77, slices.Concat(onPage3, next)...)
	beyond := []impl.Micro{s(9, 70), s(10, 13), s(11, 61), s(12, 8), f(9), fence, s(8, 2), f(8), fence, s(70, 13), s(61, 8), f(70), f(61), fence, s(8, 0), f(8), fence}
	wantWriteSteps(t, "behind the end", small, "/f", 7, 77, slices.Concat(onPage3, beyond)...)
	empty := []impl.Micro{s(9, 99), s(10, 13), s(11, 97), s(12, 1), f(9), fence, s(8, 2), f(8), fence, s(99, 13), s(97, 1), f(99), fence, s(8, 0), f(8), fence}
	wantWriteSteps(t, "an empty file, in one line", small, "/d/d/e", 0, 77, slices.Concat(onPage3, empty)...)
	onLast := []impl.Micro{s(334, 0), f(334), fence, s(9, 63), s(10, 89), f(9), fence, s(8, 1), f(8), fence, s(63, 89), f(63), fence, s(8, 0), f(8), fence}
	wantWriteSteps(t, "the one page that is free", housed(packed(1, 29)), "/f", 0, 0, onLast...)
	onSector := []impl.Micro{writeStep(1, impl.MaxWord-1), barrierStep(), s(9, 63), s(10, 6), f(9), fence, s(8, 1), f(8), fence, s(63, 6), f(63), fence, s(8, 0), f(8), fence}
	wantWriteSteps(t, "no page is free", housed(packed(0, 29)), "/f", 0, impl.MaxWord-1, onSector...)
	onLastSector := []impl.Micro{writeStep(30, 5), barrierStep(), s(9, 231), s(10, 122), f(9), fence, s(8, 1), f(8), fence, s(231, 122), f(231), fence, s(8, 0), f(8), fence}
	wantWriteSteps(t, "the one sector that is free", housed(packed(0, 1)), "/zzzzzz", 0, 5, onLastSector...)
}

// What is free is asked of the image as it is loaded, too.
func TestP9StepsOfWriteWithStoresThatAreNotSure(t *testing.T) {
	d := unsure(housed(smallImage()), []impl.Store{{At: 99, Value: pageEntry(3)}, {At: 97, Value: 1}}, nil)
	want, _ := writeByHand(imageByHand(t, "a store", d), "/d/d/e", 1, 5)
	if want[0] != storeStep(316, 5) {
		t.Fatalf("the page is not the next one: %v", want)
	}
	wantWriteSteps(t, "the free page is taken", d, "/d/d/e", 1, 5, want...)
	after := done(t, "stores and writes", unsure(d, []impl.Store{{At: 315, Value: 1}, {At: 316, Value: 2}}, []impl.Sector{{At: 0, Value: 3}}), writeOp("/d/d/e", 1, 5))
	wantPages(t, "a store of the same page ahead", after, "/d/d/e", 1, 5)
	wantPages(t, "a write of another file ahead", after, "/f", 1312, 0, 3)
}

// wantWritten writes one page, and asks for it and for the pages of all files.
func wantWritten(t *testing.T, where string, d impl.Devices, path string, page, value int, want ...int) impl.Devices {
	t.Helper()
	after := done(t, where, d, writeOp(path, page, value))
	wantPages(t, where, after, path, want...)
	if v, code := impl.ReadPage(after, path, page); v != value || code != impl.OK {
		t.Errorf("%s: page %d of %q is %d, code %d, not %d", where, page, path, v, code, value)
	}
	return after
}

func TestP9WrittenIsRead(t *testing.T) {
	d := housed(smallImage())
	wantWritten(t, "a page of the memory", d, "/f", 0, 7, 7, 0, 1000)
	wantWritten(t, "a page that is nowhere", d, "/f", 1, 7, 1312, 7, 1000)
	wantWritten(t, "a sector", d, "/f", 2, 7, 1312, 0, 7)
	wantWritten(t, "at the end", d, "/f", 3, 7, 1312, 0, 1000, 7)
	wantWritten(t, "behind the end", d, "/f", 5, 7, 1312, 0, 1000, 0, 0, 7)
	wantWritten(t, "the last page", d, "/d/g", 7, 7, 1312, 0, 1000, 0, 0, 0, 0, 7)
	wantWritten(t, "into an empty file", d, "/d/d/e", 0, 7, 7)
	wantWritten(t, "behind the end of an empty file", d, "/d/d/e", 7, 7, 0, 0, 0, 0, 0, 0, 0, 7)
	wantWritten(t, "a nought", d, "/zzzzzz", 0, 0, 0, 1031, 0, 1313, 1002, 0, 0, 1314)
	wantWritten(t, "the greatest word", d, "/zzzzzz", 7, impl.MaxWord-1, 1335, 1031, 0, 1313, 1002, 0, 0, impl.MaxWord-1)
	wantWritten(t, "what is there already", d, "/zzzzzz", 1, 1031, 1335, 1031, 0, 1313, 1002, 0, 0, 1314)
	for _, h := range roomyHosts()[:len(roomyHosts())-1] {
		for path := range sizesOfSmall() {
			for page := range mostPages {
				for _, v := range []int{0, 40 + page, impl.MaxWord - 1} {
					done(t, h.name, h.devices, writeOp(path, page, v))
				}
			}
		}
	}
}

// What lies between the old end and the new one is 0, whatever stood on its pages ahead, until it is written itself.
func TestP9WrittenBehindTheEnd(t *testing.T) {
	d := done(t, "a new file", impl.NewDevices(), makeOp("/a"), mkdirOp("/b"), makeOp("/b/a"))
	d = wantWritten(t, "beyond", d, "/a", 2, 70, 0, 0, 70)
	d = wantWritten(t, "again", d, "/a", 2, 71, 0, 0, 71)
	d = wantWritten(t, "another file", d, "/b/a", 6, 60, 0, 0, 0, 0, 0, 0, 60)
	d = wantWritten(t, "far beyond", d, "/a", 7, 72, 0, 0, 71, 0, 0, 0, 0, 72)
	d = wantWritten(t, "between", d, "/a", 4, 73, 0, 0, 71, 0, 73, 0, 0, 72)
	d = wantWritten(t, "the first one", d, "/a", 0, 74, 74, 0, 71, 0, 73, 0, 0, 72)
	wantPages(t, "the other file is as it was", d, "/b/a", 0, 0, 0, 0, 0, 0, 60)
	d = done(t, "cut", d, cutOp("/a", 1))
	wantPages(t, "cut", d, "/a", 74)
	d = wantWritten(t, "beyond, behind a cut", d, "/a", 5, 75, 74, 0, 0, 0, 0, 75)
	d = done(t, "cut to none", d, cutOp("/a", 0))
	d = wantWritten(t, "beyond, behind a cut to none", d, "/a", 7, 76, 0, 0, 0, 0, 0, 0, 0, 76)
	d = done(t, "removed and made again", d, removeOp("/a"), makeOp("/a"))
	wantPages(t, "a new file", d, "/a")
	wantWritten(t, "beyond, in a new file", d, "/a", 7, 77, 0, 0, 0, 0, 0, 0, 0, 77)
}

func TestP9WrittenByOneNameReadByAnother(t *testing.T) {
	d := done(t, "two names", housed(smallImage()), linkOp("/f", "/d/d/aaaaaa/x"), writeOp("/d/d/aaaaaa/x", 4, 5), renameOp("/d/d", "/y"), writeOp("/d/g", 1, 6), cutOp("/y/aaaaaa/x", 4))
	for _, path := range []string{"/f", "/d/g", "/y/aaaaaa/x"} {
		wantPages(t, "three names", d, path, 1312, 6, 1000, 0)
	}
	d = done(t, "one name less", d, removeOp("/f"), writeOp("/d/g", 0, 8))
	wantPages(t, "one name less", d, "/y/aaaaaa/x", 8, 6, 1000, 0)
	wantOps(t, "it is not there", d, codedOp{writeOp("/f", 0, 1), impl.ErrNone}, codedOp{cutOp("/f", 0), impl.ErrNone}, codedOp{readOp("/f", 0), impl.ErrNone})
}

// A write needs an address that is free, also of a page that has one.
func TestP9WrittenUntilBothTiersAreFull(t *testing.T) {
	d := impl.NewDevices()
	var contents [7][]int
	for i := range contents {
		path := "/" + nameOf(i+1)
		d = done(t, "made", d, makeOp(path))
		for page := range mostPages {
			d = done(t, "room", d, writeOp(path, page, 100+10*i+page))
			contents[i] = append(contents[i], 100+10*i+page)
		}
	}
	d = done(t, "without pages", d, makeOp("/h"))
	for page := range mostPages {
		for _, path := range []string{"/a", "/c", "/d", "/g", "/h"} {
			d = wantOps(t, "full", d, codedOp{writeOp(path, page, 5), impl.ErrFull})
		}
	}
	for i, pages := range contents {
		wantPages(t, "full", d, "/"+nameOf(i+1), pages...)
	}
	d = wantOps(t, "a cut makes room on its sector", d, codedOp{cutOp("/g", 7), impl.OK}, codedOp{writeOp("/a", 3, 5), impl.OK}, codedOp{writeOp("/h", 7, 6), impl.OK}, codedOp{writeOp("/h", 7, 7), impl.ErrFull})
	wantPages(t, "of a sector and of the page that was left", d, "/a", 100, 101, 102, 5, 104, 105, 106, 107)
	wantPages(t, "of a page", d, "/h", 0, 0, 0, 0, 0, 0, 0, 6)
	wantOps(t, "what is removed makes room", d, codedOp{removeOp("/c"), impl.OK}, codedOp{writeOp("/h", 0, 7), impl.OK}, codedOp{writeOp("/b", 7, 8), impl.OK})
}

func wantCutList(t *testing.T, where string, m impl.Image, path string, size int, want ...impl.Update) {
	t.Helper()
	if got, code := impl.PlanCut(m, path, size); code != impl.OK || !slices.Equal(got, want) {
		t.Errorf("%s: PlanCut has the updates %v, code %d, not %v", where, got, code, want)
	}
}

func TestP9UpdatesOfCut(t *testing.T) {
	m, u := smallImage(), func(at, v int) impl.Update { return impl.Update{At: at, Value: v} }
	for _, path := range []string{"/f", "/d/g"} {
		wantCutList(t, "to the same size", m, path, 3, u(61, 3))
		wantCutList(t, "a sector", m, path, 2, u(61, 2), u(65, 0))
		wantCutList(t, "a page that is nowhere, too", m, path, 1, u(61, 1), u(65, 0))
		wantCutList(t, "to none", m, path, 0, u(61, 0), u(63, 0), u(65, 0))
		wantCutList(t, "one more", m, path, 4, u(61, 4))
		wantCutList(t, "the most", m, path, 8, u(61, 8))
	}
	wantCutList(t, "the most to none", m, "/zzzzzz", 0, u(229, 0), u(231, 0), u(232, 0), u(234, 0), u(235, 0), u(238, 0))
	wantCutList(t, "the most to the last but one", m, "/zzzzzz", 7, u(229, 7), u(238, 0))
	wantCutList(t, "the most to the most", m, "/zzzzzz", 8, u(229, 8))
	wantCutList(t, "none to none", m, "/d/d/e", 0, u(97, 0))
	wantCutList(t, "none to the most", m, "/d/d/e", 8, u(97, 8))
	full := filled(impl.TierBlk, impl.BlkSize)
	wantCutList(t, "eight sectors", full, "/a", 0, append(updatesFrom(61, 0), updatesFrom(63, make([]int, mostPages)...)...)...)
}

// A file that is cut has its first pages alone; made longer again, it has noughts behind them.
func TestP9CutHasItsFirstPagesAlone(t *testing.T) {
	want := map[string][]int{"/f": {1312, 0, 1000, 0, 0, 0, 0, 0}, "/zzzzzz": {1335, 1031, 0, 1313, 1002, 0, 0, 1314}, "/d/d/e": make([]int, mostPages)}
	for path, pages := range want {
		for size := range mostPages + 1 {
			d := done(t, "cut", housed(smallImage()), cutOp(path, size))
			wantPages(t, "cut", d, path, pages[:size]...)
			wantPages(t, "cut to the same size", done(t, "again", d, cutOp(path, size)), path, pages[:size]...)
			for longer := size; longer <= mostPages; longer++ {
				noughts := slices.Concat(pages[:size], make([]int, longer-size))
				wantPages(t, "made longer", done(t, "longer", d, cutOp(path, longer)), path, noughts...)
			}
		}
	}
	d := done(t, "two at once", housed(smallImage()), cutOp("/f", 1), cutOp("/f", 3), cutOp("/zzzzzz", 0), cutOp("/zzzzzz", 8))
	wantPages(t, "two at once", d, "/f", 1312, 0, 0)
	wantPages(t, "two at once", d, "/zzzzzz", make([]int, 8)...)
}

// The addresses of the pages that are cut off are free; those that are kept are not.
func TestP9CutMakesRoom(t *testing.T) {
	m := imageByHand(t, "cut", done(t, "cut", housed(smallImage()), cutOp("/zzzzzz", 2)))
	wantUsed(t, "cut", m, impl.TierPm, 0, 23)
	wantUsed(t, "cut", m, impl.TierBlk, 0, 31)
	wantFree(t, "cut", m, impl.FreePage, 1)
	m = imageByHand(t, "longer", done(t, "longer", housed(smallImage()), cutOp("/zzzzzz", 2), cutOp("/zzzzzz", 8)))
	wantUsed(t, "longer", m, impl.TierPm, 0, 23)
	wantUsed(t, "longer", m, impl.TierBlk, 0, 31)
}

func wantAnswer(t *testing.T, where string, d impl.Devices, o impl.Op, want impl.Answer) {
	t.Helper()
	steps, a, code := impl.PlanOp(d, o)
	if code != impl.OK || !sameAnswer(a, want) || len(steps) > 0 {
		t.Errorf("%s: %+v has the answer %v, code %d, not %v, or steps: %v", where, o, a, code, want, steps)
	}
	wantDone(t, where, d, o)
}

func TestP9Stats(t *testing.T) {
	small := housed(smallImage())
	for path, want := range map[string]int{"/": 201, "/d": 201, "/d/d": 201, "/d/d/aaaaaa": 201, "/f": 132, "/d/g": 132, "/d/d/e": 101, "/zzzzzz": 181} {
		wantAnswer(t, "small", small, statOp(path), impl.Answer{Value: want})
	}
	d := done(t, "one file", impl.NewDevices(), makeOp("/a"))
	for n := 1; n <= lastDirent+1; n++ {
		for size := range mostPages + 1 {
			d = done(t, "sizes", d, cutOp("/a", size))
			wantAnswer(t, fmt.Sprint(n, " links"), d, statOp("/"+nameOf(n)), impl.Answer{Value: 100 + 10*size + min(n, 9)})
		}
		if n <= lastDirent {
			d = done(t, "one more", d, linkOp("/"+nameOf(n), "/"+nameOf(n+1)))
		}
	}
	for n := lastDirent + 1; n > 1; n-- {
		d = done(t, "one less", d, removeOp("/"+nameOf(n)))
		wantAnswer(t, fmt.Sprint(n-1, " links"), d, statOp("/a"), impl.Answer{Value: 180 + min(n-1, 9)})
	}
}

func TestP9Lists(t *testing.T) {
	small := housed(smallImage())
	wantAnswer(t, "the root", small, listOp("/"), impl.Answer{Names: []string{"d", "f", "zzzzzz"}})
	wantAnswer(t, "a directory", small, listOp("/d"), impl.Answer{Names: []string{"d", "g"}})
	wantAnswer(t, "beneath", small, listOp("/d/d"), impl.Answer{Names: []string{"aaaaaa", "e"}})
	wantAnswer(t, "an empty one", small, listOp("/d/d/aaaaaa"), impl.Answer{})
	wantAnswer(t, "a file", small, listOp("/f"), impl.Answer{Code: impl.ErrNoDir})
	wantAnswer(t, "an empty file", small, listOp("/d/d/e"), impl.Answer{Code: impl.ErrNoDir})
	wantAnswer(t, "the root alone", impl.NewDevices(), listOp("/"), impl.Answer{})
	wantAnswer(t, "falling", housed(treeImage()), listOp("/b/c"), impl.Answer{Names: []string{"a", "d", "e"}})
	most := rightImages()[len(rightImages())-1].image
	var names []string
	for n := range lastDirent + 1 {
		names = append(names, nameOf(n+1))
	}
	wantAnswer(t, "all names", housed(most), listOp("/"), impl.Answer{Names: names})
}

func TestP9Reads(t *testing.T) {
	small := housed(smallImage())
	for page, want := range []int{1335, 1031, 0, 1313, 1002, 0, 0, 1314} {
		wantAnswer(t, "a page", small, readOp("/zzzzzz", page), impl.Answer{Value: want})
	}
	for _, page := range []int{-1, 3, 4, 8} {
		wantAnswer(t, "no page", small, readOp("/f", page), impl.Answer{Code: impl.ErrRange})
	}
	wantAnswer(t, "a directory", small, readOp("/d", 0), impl.Answer{Code: impl.ErrDir})
	busy := unsure(small, []impl.Store{{At: 312, Value: 9}}, []impl.Sector{{At: 0, Value: 8}})
	wantAnswer(t, "a store", busy, readOp("/f", 0), impl.Answer{Value: 9})
	wantAnswer(t, "a write", busy, readOp("/d/g", 2), impl.Answer{Value: 8})
}

// Each operation that changes something has the steps of its own plan, and an answer that is zero.
func TestP9OperationsArePlans(t *testing.T) {
	m := smallImage()
	d := housed(m)
	journaled := func(list []impl.Update, code int) []impl.Micro {
		if code != impl.OK {
			t.Fatalf("a plan has the code %d", code)
		}
		return journalPlan(t, list)
	}
	written, _ := impl.PlanWrite(d, "/f", 5, 6)
	cases := []struct {
		op   impl.Op
		want []impl.Micro
	}{
		{makeOp("/x"), journaled(impl.PlanMake(m, "/x", impl.KindFile))},
		{mkdirOp("/x"), journaled(impl.PlanMake(m, "/x", impl.KindDir))},
		{removeOp("/f"), journaled(impl.PlanRemove(m, "/f"))},
		{removeOp("/zzzzzz"), journaled(impl.PlanRemove(m, "/zzzzzz"))},
		{removeOp("/d/d/aaaaaa"), journaled(impl.PlanRemove(m, "/d/d/aaaaaa"))},
		{linkOp("/f", "/x"), journaled(impl.PlanLink(m, "/f", "/x"))},
		{renameOp("/d/d", "/x"), journaled(impl.PlanRename(m, "/d/d", "/x"))},
		{writeOp("/f", 5, 6), written},
		{cutOp("/zzzzzz", 3), journaled(impl.PlanCut(m, "/zzzzzz", 3))},
		{cutOp("/zzzzzz", 8), journaled(impl.PlanCut(m, "/zzzzzz", 8))},
	}
	for _, c := range cases {
		steps, a, code := impl.PlanOp(d, c.op)
		if code != impl.OK || !sameAnswer(a, impl.Answer{}) || !slices.Equal(steps, c.want) || len(steps) == 0 {
			t.Errorf("%+v has the steps %v, the answer %v, code %d, not %v", c.op, steps, a, code, c.want)
		}
		wantDone(t, "small", d, c.op)
	}
}

// Wherever a plan of pages crashes, all files are as they were, or as they are behind it.
func TestP9PlansCrash(t *testing.T) {
	d := &dice{state: 90}
	hosts := []struct {
		name    string
		devices impl.Devices
	}{{"on a page", housed(smallImage())}, {"on a sector", housed(packed(0, 3))}}
	for _, h := range hosts {
		m := imageByHand(t, h.name, h.devices)
		paths, before := pathsByHand(m), contentsByHand(m, h.devices)
		for _, o := range []impl.Op{writeOp("/f", 0, 7), writeOp("/f", 2, 7), writeOp("/f", 6, 7), cutOp("/zzzzzz", 1), cutOp("/f", 8)} {
			steps, _, _ := impl.PlanOp(h.devices, o)
			_, behind := behindByHand(m, h.devices, o)
			for n := range len(steps) + 1 {
				cut := do(t, h.devices, steps[:n]...)
				mayBehind, mayBefore := isThere(steps, n)
				for _, keeps := range crashKeeps(d)[:13] {
					where := fmt.Sprintf("%s: %+v, %d steps, keeps %v", h.name, o, n, keeps)
					after := impl.Devices{Pm: replay(t, crash(t, cut.Pm, keeps...)), Blk: crashBlk(t, cut.Blk, keeps...)}
					got := contentsByHand(imageByHand(t, where, after), after)
					isBehind, isBefore := sameContents(got, behind), sameContents(got, before)
					if !(isBehind && mayBehind || isBefore && mayBefore) {
						t.Fatalf("%s: the files are %v", where, got)
					}
					if n%3 == 0 {
						wantContents(t, where, after, paths, got)
					}
				}
			}
		}
	}
}

func sameContents(a, b map[int][]int) bool {
	for i := range a {
		if !slices.Equal(a[i], b[i]) {
			return false
		}
	}
	return len(a) == len(b)
}

func TestP9RolledRuns(t *testing.T) {
	d := &dice{state: 91}
	codes, kinds, fullWrites := map[int]int{}, map[int]int{}, 0
	for n := range 40 {
		devices, steps := impl.NewDevices(), 120
		// Where there is little room, cuts and removals soon make some.
		if n%4 > 0 {
			devices, steps = housed(packed(d.roll(2), d.roll(2))), 25
		}
		for step := range steps {
			where := fmt.Sprint("run ", n, ", step ", step)
			o := rollOp(d, imageByHand(t, where, devices))
			after, a := wantDone(t, where, devices, o)
			devices = after
			codes[a.Code]++
			if a.Code == impl.OK {
				kinds[o.Kind]++
			}
			if a.Code == impl.ErrFull && o.Kind == impl.OpWrite {
				fullWrites++
			}
		}
	}
	if fullWrites < 10 {
		t.Errorf("only %d writes found no room", fullWrites)
	}
	for _, code := range []int{impl.OK, impl.ErrRange, impl.ErrNone, impl.ErrFull, impl.ErrTwice, impl.ErrDir, impl.ErrNoDir, impl.ErrNotEmpty, impl.ErrLoop, impl.ErrRoot} {
		if codes[code] < 5 {
			t.Errorf("the code %d came only %d times: %v", code, codes[code], codes)
		}
	}
	for kind := impl.OpMake; kind <= impl.OpList; kind++ {
		if kinds[kind] < 30 {
			t.Errorf("the kind %d was done only %d times: %v", kind, kinds[kind], kinds)
		}
	}
}

// rollUnsure has stores, flushed or not, and writes upon pages and sectors that are not sure; the image is as it was.
func rollUnsure(t *testing.T, d *dice, devices impl.Devices) impl.Devices {
	t.Helper()
	var steps []impl.Micro
	for range d.roll(20) {
		steps = append(steps, storeStep(312+d.roll(24), d.roll(1<<30)), writeStep(d.roll(32), d.roll(1<<30)))
		if d.roll(4) == 0 {
			steps = append(steps, flushStep(312+d.roll(24)))
		}
	}
	return do(t, devices, steps...)
}

func TestP9RolledImages(t *testing.T) {
	d := &dice{state: 92}
	kinds := map[int]int{}
	for n := range 300 {
		m := rollImage(d)
		devices := rollUnsure(t, d, housed(m))
		where := fmt.Sprint("image ", n)
		wantContents(t, where, devices, pathsByHand(m), contentsByHand(m, devices))
		for range 4 {
			o := rollOp(d, m)
			if _, a := wantDone(t, where, devices, o); a.Code == impl.OK {
				kinds[o.Kind]++
			}
		}
	}
	for kind := impl.OpMake; kind <= impl.OpList; kind++ {
		if kinds[kind] < 10 {
			t.Errorf("the kind %d was done only %d times: %v", kind, kinds[kind], kinds)
		}
	}
}
