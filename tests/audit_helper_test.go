package tests

import (
	"maps"
	"slices"
	"strings"
	"testing"

	"loop.example/g00410/impl"
)

func accountedCall(d impl.Devices) asked { return ask("Accounted", impl.Accounted, d) }

func tiersCall(d impl.Devices) asked { return ask("TiersOf", impl.TiersOf, d) }

func looseCall(d impl.Devices, list ...impl.Micro) asked {
	return ask("Loose", impl.Loose, d, list)
}

func fairCall(d impl.Devices) asked { return ask("FairWrite", impl.FairWrite, d) }

func sureCall(f impl.Fs) asked { return ask("SureOf", impl.SureOf, f) }

// auditCalls are all calls of chapter 14 that take devices.
func auditCalls(d impl.Devices, list ...impl.Micro) []asked {
	return []asked{accountedCall(d), tiersCall(d), looseCall(d, list...), fairCall(d)}
}

// tiersByHand takes what is nowhere as what is left of all sizes.
func tiersByHand(m impl.Image) []int {
	pm, blk, all := len(spotsOf(m, 1)), len(spotsOf(m, 2)), 0
	for _, x := range m.Inodes {
		all += x.Size
	}
	return []int{pm, blk, all - pm - blk}
}

// freeByHand are the entries of all addresses that no page has, the memory's first.
func freeByHand(m impl.Image) []int {
	return slices.DeleteFunc(everyAddress(), func(entry int) bool { return isMapped(m, entry) })
}

// looseName is how Loose tells the address of an entry.
func looseName(entry int) int {
	if entry%4 == 2 {
		return 100 + entry/4
	}
	return entry / 4
}

// entryOfStep is of the address that a step stores to or writes; 0 if that is none of a page.
func entryOfStep(s impl.Micro) int {
	switch {
	case s.Kind == 1 && s.At >= 312:
		return pageEntry(s.At - 312)
	case s.Kind == 4:
		return sectorEntry(s.At)
	}
	return 0
}

// looseByHand tells Loose a second time, of steps that are some.
func looseByHand(m impl.Image, list []impl.Micro) []int {
	var loose []int
	for _, s := range list {
		if entry := entryOfStep(s); entry != 0 && !isMapped(m, entry) {
			loose = append(loose, looseName(entry))
		}
	}
	return loose
}

func wantAccounted(t *testing.T, where string, d impl.Devices) {
	t.Helper()
	if ok, code := impl.Accounted(d); !ok || code != impl.OK {
		t.Fatalf("%s: Accounted is %v, code %d", where, ok, code)
	}
}

func wantTiers(t *testing.T, where string, d impl.Devices, want ...int) {
	t.Helper()
	if got, code := impl.TiersOf(d); code != impl.OK || !slices.Equal(got, want) {
		t.Fatalf("%s: TiersOf is %v, code %d, not %v", where, got, code, want)
	}
}

func wantLoose(t *testing.T, where string, d impl.Devices, list []impl.Micro, want ...int) {
	t.Helper()
	if got, code := impl.Loose(d, list); code != impl.OK || !slices.Equal(got, want) {
		t.Fatalf("%s: Loose of %v is %v, code %d, not %v", where, list, got, code, want)
	}
}

func wantFair(t *testing.T, where string, d impl.Devices, want bool) {
	t.Helper()
	if got, code := impl.FairWrite(d); got != want || code != impl.OK {
		t.Fatalf("%s: FairWrite is %v, code %d, not %v", where, got, code, want)
	}
}

func wantSure(t *testing.T, where string, f impl.Fs, want bool) {
	t.Helper()
	if got, code := impl.SureOf(f); got != want || code != impl.OK {
		t.Fatalf("%s: SureOf is %v, code %d, not %v", where, got, code, want)
	}
}

// filesThere are the paths of files that can be named, rising.
func filesThere(m impl.Image) []string {
	paths := pathsByHand(m)
	maps.DeleteFunc(paths, func(path string, i int) bool {
		return m.Inodes[i].Kind != impl.KindFile || strings.Count(path, "/") > mostNames
	})
	return slices.Sorted(maps.Keys(paths))
}

// wantWrites asks each file for a write of its first page, one in its midst and its last one: without a free address each of them is full, with one none of them.
func wantWrites(t *testing.T, where string, d impl.Devices) {
	t.Helper()
	m := imageByHand(t, where, d)
	free := freeByHand(m)
	wantFair(t, where, d, len(free) > 0)
	for _, path := range filesThere(m) {
		for _, page := range []int{0, 3, 7} {
			plan, code := impl.PlanWrite(d, path, page, 5)
			if len(free) == 0 {
				if code != impl.ErrFull {
					t.Fatalf("%s: both tiers are full, and a write of %q, page %d, has the code %d", where, path, page, code)
				}
				continue
			}
			if code != impl.OK {
				t.Fatalf("%s: %d addresses are free, and a write of %q, page %d, has the code %d", where, len(free), path, page, code)
			}
			wantLoose(t, where, d, plan, looseName(free[0]))
		}
	}
}

// wantOneEach asks that each address is free, or has one page, as the program tells it too.
func wantOneEach(t *testing.T, where string, m impl.Image) {
	t.Helper()
	seen := map[int]int{}
	for _, s := range everySpot() {
		seen[m.Inodes[s.inode].Map[s.page]]++
	}
	pages, code := impl.UsedBy(m, impl.TierPm)
	sectors, other := impl.UsedBy(m, impl.TierBlk)
	if code != impl.OK || other != impl.OK {
		t.Fatalf("%s: UsedBy has the codes %d and %d", where, code, other)
	}
	for _, entry := range everyAddress() {
		used := pages
		if entry%4 == impl.TierBlk {
			used = sectors
		}
		if n := countOf(used, entry/4); n != seen[entry] || n > 1 {
			t.Fatalf("%s: address %d of tier %d has %d pages, and is told %d times", where, entry/4, entry%4, seen[entry], n)
		}
	}
}

// wantPlaced is the first half of promise 14, of devices that have a right image.
func wantPlaced(t *testing.T, where string, d impl.Devices) {
	t.Helper()
	m := imageByHand(t, where, d)
	wantOneEach(t, where, m)
	wantAccounted(t, where, d)
	want := tiersByHand(m)
	wantTiers(t, where, d, want...)
	pages := 0
	for _, list := range contentsByHand(m, d) {
		pages += len(list)
	}
	if want[0]+want[1]+want[2] != pages || want[0]+want[1]+len(freeByHand(m)) != 56 {
		t.Fatalf("%s: %v pages are counted where there are %d, and %d addresses are free", where, want, pages, len(freeByHand(m)))
	}
}

// wantAudited is all of promise 14.
func wantAudited(t *testing.T, where string, d impl.Devices) {
	t.Helper()
	wantPlaced(t, where, d)
	wantWrites(t, where, d)
}

// filledUp has both tiers full, made by operations: the file /one has one page, which was written as the nth of all.
func filledUp(t *testing.T, nth int) impl.Fs {
	t.Helper()
	f := systemWith(t, makeOp("/one"))
	written := 0
	write := func(o impl.Op) {
		x, a, code := impl.DoOp(f, o)
		if code != impl.OK || a.Code != impl.OK {
			t.Fatalf("write %d has the answer %v, code %d", written, a, code)
		}
		f = x
		written++
	}
	for n := range 55 {
		path := "/" + nameOf(1+n/8)
		if n%8 == 0 {
			f, _ = doOp(t, "filled up", f, makeOp(path))
		}
		if written == nth {
			write(writeOp("/one", 0, 1))
		}
		write(writeOp(path, n%8, 100+n))
	}
	if written == nth {
		write(writeOp("/one", 0, 1))
	}
	return f
}

// auditHosts are devices with a right image, sure or not.
func auditHosts() []namedPair {
	var list []namedPair
	for _, x := range restingSystems() {
		list = append(list, namedPair{x.name, x.fs.Devices})
	}
	small := housed(smallImage())
	list = append(list,
		namedPair{"a page more as it is loaded", unsure(small, []impl.Store{{At: 64, Value: pageEntry(5)}}, nil)},
		namedPair{"a page less as it is loaded", unsure(small, []impl.Store{{At: 63, Value: 0, Flushed: true}}, nil)},
		namedPair{"a size as it is loaded", unsure(small, []impl.Store{{At: 97, Value: 2}}, nil)},
		namedPair{"pages and sectors that are not sure", unsure(small, []impl.Store{{At: 312, Value: 5}, {At: 330, Value: 6}}, []impl.Sector{{At: 0, Value: 7}, {At: 9, Value: 8}})},
		namedPair{"as many stores and writes as there may be", unsure(small, storesOf(mostStores, 20, 335), writesOf(mostStores, 3, 31))},
		namedPair{"a journal", notedOn(small, impl.Update{At: 64, Value: pageEntry(5)})},
	)
	return append(list, wrongJournals()...)
}

// stepsThatStay are lists of steps that are some.
func stepsThatStay() [][]impl.Micro {
	return [][]impl.Micro{nil, {}, rightSteps(), {storeStep(312, 5)}, {storeStep(335, 0), writeStep(31, 0), writeStep(31, 1)}, fences(impl.MaxList)}
}

// placesOf are a step that is none first, last and between others.
func placesOf(wrong impl.Micro) [][]impl.Micro {
	good := []impl.Micro{storeStep(317, 5), flushStep(317), fenceStep(), writeStep(9, 5), barrierStep()}
	return [][]impl.Micro{
		{wrong},
		slices.Concat([]impl.Micro{wrong}, good),
		slices.Concat(good, []impl.Micro{wrong}),
		slices.Concat(good, []impl.Micro{wrong}, good),
		slices.Concat(slices.Repeat(good, 819), []impl.Micro{wrong}),
	}
}

// longSteps are more than a list may have, be they steps or not.
func longSteps() [][]impl.Micro {
	none := fences(impl.MaxList + 1)
	none[0] = impl.Micro{}
	last := fences(impl.MaxList + 1)
	last[impl.MaxList] = impl.Micro{}
	return [][]impl.Micro{fences(impl.MaxList + 1), none, last, make([]impl.Micro, 3*impl.MaxList), slices.Repeat([]impl.Micro{storeStep(317, 5)}, impl.MaxList+1)}
}

// rollSteps are any steps, those of pages and sectors more often than others.
func rollSteps(d *dice) []impl.Micro {
	var list []impl.Micro
	for range d.roll(30) {
		switch d.roll(8) {
		case 0:
			list = append(list, flushStep(d.roll(336)))
		case 1:
			list = append(list, []impl.Micro{fenceStep(), barrierStep()}[d.roll(2)])
		case 2:
			list = append(list, storeStep(d.roll(336), d.roll(1<<30)))
		case 3, 4:
			list = append(list, storeStep(308+d.roll(28), d.roll(100)))
		default:
			list = append(list, writeStep(d.roll(32), d.roll(100)))
		}
	}
	return list
}
