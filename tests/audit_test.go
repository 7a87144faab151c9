package tests

import (
	"fmt"
	"slices"
	"testing"

	"loop.example/g00410/impl"
)

func TestP14TiersByHand(t *testing.T) {
	small := housed(smallImage())
	changed := func(do func(m *impl.Image)) impl.Devices { return housed(change{"", do}.of(smallImage())) }
	for _, c := range []struct {
		name    string
		devices impl.Devices
		want    []int
	}{
		{"new", impl.NewDevices(), []int{0, 0, 0}},
		{"the root alone", housed(bareImage()), []int{0, 0, 0}},
		{"directories alone", housed(chainImage()), []int{0, 0, 0}},
		{"small", small, []int{4, 3, 4}},
		{"the tree: files of four names are counted once", housed(treeImage()), []int{1, 1, 1}},
		{"full", housed(fullImage()), []int{24, 32, 0}},
		{"eight pages that are nowhere", changed(func(m *impl.Image) { m.Inodes[4].Size = 8 }), []int{4, 3, 12}},
		{"one page that is nowhere", changed(func(m *impl.Image) { m.Inodes[4].Size = 1 }), []int{4, 3, 5}},
		{"eight pages", changed(func(m *impl.Image) {
			m.Inodes[4] = fileOf(1, pageEntry(3), pageEntry(4), pageEntry(5), pageEntry(6), pageEntry(7), pageEntry(8), pageEntry(9), pageEntry(10))
		}), []int{12, 3, 4}},
		{"eight sectors", changed(func(m *impl.Image) {
			m.Inodes[4] = fileOf(1, sectorEntry(23), sectorEntry(24), sectorEntry(5), sectorEntry(6), sectorEntry(7), sectorEntry(8), sectorEntry(9), sectorEntry(1))
		}), []int{4, 11, 4}},
		{"a file that is gone", changed(func(m *impl.Image) { m.Inodes[15], m.Dirents[23] = impl.Inode{}, freeEntry() }), []int{1, 1, 1}},
		{"a page more as it is loaded", unsure(small, []impl.Store{{At: 64, Value: pageEntry(5)}}, nil), []int{5, 3, 3}},
		{"a sector more as it is loaded", unsure(small, []impl.Store{{At: 64, Value: pageEntry(5)}, {At: 64, Value: sectorEntry(5)}}, nil), []int{4, 4, 3}},
		{"a page less as it is loaded", unsure(small, []impl.Store{{At: 63, Value: 0, Flushed: true}}, nil), []int{3, 3, 5}},
		{"a size as it is loaded", unsure(small, []impl.Store{{At: 97, Value: 2}}, nil), []int{4, 3, 6}},
		{"a page in the journal alone", notedOn(small, impl.Update{At: 64, Value: pageEntry(5)}), []int{4, 3, 4}},
		{"no free page", housed(packed(0, 29)), []int{24, 3, 4}},
		{"no free sector", housed(packed(20, 0)), []int{4, 32, 4}},
		{"no room", housed(packed(0, 0)), []int{24, 32, 4}},
	} {
		wantTiers(t, c.name, c.devices, c.want...)
		wantAudited(t, c.name, c.devices)
	}
}

// Each number of pages of a file, each of them nowhere, of the memory, or of the block device.
func TestP14TiersOfEachSize(t *testing.T) {
	for size := range mostPages + 1 {
		for kind := range 3 {
			m := smallImage()
			m.Inodes[4] = fileOf(1)
			m.Inodes[4].Size = size
			want := []int{4, 3, 4}
			for page := range size {
				m.Inodes[4].Map[page] = []int{0, pageEntry(5 + page), sectorEntry(5 + page)}[kind]
			}
			want[(kind+2)%3] += size
			wantTiers(t, fmt.Sprint("size ", size, ", kind ", kind), housed(m), want...)
		}
	}
}

// What stands in a file's map at its end or behind it would be a page that no file has: there is no right image then.
func TestP14EntriesBehindTheEnd(t *testing.T) {
	for size := range mostPages {
		for page := range mostPages {
			for _, entry := range []int{pageEntry(5), sectorEntry(5), pageEntry(23), 3, 97, 130} {
				d := unsure(housed(smallImage()), []impl.Store{{At: 48 + 12*4 + 1, Value: size}, {At: 48 + 12*4 + 3 + page, Value: entry}}, nil)
				right := page < size && (entry == pageEntry(5) || entry == sectorEntry(5))
				for _, c := range auditCalls(d, storeStep(317, 5)) {
					code := impl.OK
					if !right {
						code = impl.ErrBad
					}
					wantCode(t, fmt.Sprint("size ", size, ", page ", page, ", entry ", entry), c, code)
				}
				if right {
					wantAudited(t, "below the end", d)
				}
			}
		}
	}
}

func TestP14RightHosts(t *testing.T) {
	for _, h := range auditHosts() {
		wantAudited(t, h.name, h.devices)
	}
	d := &dice{state: 140}
	for n := range 300 {
		wantAudited(t, fmt.Sprint("image ", n), rollUnsure(t, d, housed(rollImage(d))))
	}
}

func TestP14RoomOfEachKind(t *testing.T) {
	for _, c := range []struct {
		name    string
		devices impl.Devices
		fair    bool
		onto    []int
	}{
		{"new", impl.NewDevices(), true, nil},
		{"small", housed(smallImage()), true, []int{3}},
		{"one free page", housed(packed(1, 0)), true, []int{22}},
		{"one free page and one free sector", housed(packed(1, 1)), true, []int{22}},
		{"the faster tier full, one free sector", housed(packed(0, 1)), true, []int{130}},
		{"the faster tier full, the slower one not", housed(packed(0, 29)), true, []int{101}},
		{"the slower tier full, the faster one not", housed(packed(20, 0)), true, []int{3}},
		{"both full", housed(packed(0, 0)), false, nil},
		{"both full, no inode and no entry", housed(fullImage()), false, nil},
	} {
		wantFair(t, c.name, c.devices, c.fair)
		wantWrites(t, c.name, c.devices)
		for _, path := range filesThere(imageByHand(t, c.name, c.devices)) {
			for page := range mostPages {
				plan, code := impl.PlanWrite(c.devices, path, page, 5)
				if (code == impl.ErrFull) == c.fair || c.fair && code != impl.OK {
					t.Fatalf("%s: a write of %q, page %d, has the code %d", c.name, path, page, code)
				}
				wantLoose(t, c.name, c.devices, plan, c.onto...)
			}
		}
	}
}

// No room for names is no matter of addresses, and the other way round.
func TestP14NamesWithoutRoom(t *testing.T) {
	m := fullImage()
	for i := range m.Inodes[1:] {
		m.Inodes[1+i].Map, m.Inodes[1+i].Size = [mostPages]int{}, 0
	}
	wantFair(t, "no inode and no entry, but addresses", housed(m), true)
	wantTiers(t, "no inode and no entry, but addresses", housed(m), 0, 0, 0)
	f, a := doOp(t, "no inode", resting(m), makeOp("/new"))
	if a.Code != impl.ErrFull {
		t.Errorf("without an inode a file is made: %v", a)
	}
	if _, a = doOp(t, "no inode", f, writeOp("/a", 0, 5)); a.Code != impl.OK {
		t.Errorf("with addresses a write has the answer %v", a)
	}
	if _, a = doOp(t, "both tiers full", resting(packed(0, 0)), makeOp("/new")); a.Code != impl.OK {
		t.Errorf("with inodes and entries a file is not made: %v", a)
	}
}

// As many pages as there are addresses are written, first of the faster tier; the next one is told that it is full.
func TestP14WrittenUntilFull(t *testing.T) {
	f := impl.NewFs()
	for n := range 56 {
		path := "/" + nameOf(1+n/8)
		if n%8 == 0 {
			f, _ = doOp(t, "until full", f, makeOp(path))
		}
		where := fmt.Sprint(n, " pages")
		wantTiers(t, where, f.Devices, min(n, 24), max(0, n-24), 0)
		wantFair(t, where, f.Devices, true)
		wantAccounted(t, where, f.Devices)
		x, a := doOp(t, where, f, writeOp(path, n%8, n))
		if a.Code != impl.OK {
			t.Fatalf("%s: the next write has the answer %v", where, a)
		}
		f = x
	}
	wantTiers(t, "full", f.Devices, 24, 32, 0)
	wantAudited(t, "full", f.Devices)
	f, _ = doOp(t, "full", f, makeOp("/h"))
	for page := range mostPages {
		if x, a := doOp(t, "full", f, writeOp("/h", page, 5)); a.Code != impl.ErrFull || !samePair(x.Devices, f.Devices) {
			t.Errorf("full: a write of page %d has the answer %v", page, a)
		}
	}
}

// Pages that went down leave room for as many others: in all there are as many as without.
func TestP14WrittenUntilFullAmongMoves(t *testing.T) {
	f, written := impl.NewFs(), 0
	for ; written < 60; written++ {
		path := "/" + nameOf(1+written/8)
		if written%8 == 0 {
			f, _ = doOp(t, "among moves", f, makeOp(path))
		}
		if x, code := impl.StartMove(f, written%3 == 0); code == impl.OK {
			f = finishFs(t, "among moves", x)
		}
		wantAudited(t, fmt.Sprint("among moves, ", written), f.Devices)
		x, a := doOp(t, "among moves", f, writeOp(path, written%8, written))
		f = x
		if a.Code == impl.ErrFull {
			break
		}
	}
	if written != 56 {
		t.Errorf("%d pages were written until it was full", written)
	}
	wantTiers(t, "among moves", f.Devices, 24, 32, 0)
}

// One address is free again behind a remove or a cut: the next write has it, and then it is full again.
func TestP14OneAddressFreeAgain(t *testing.T) {
	for _, nth := range []int{0, 1, 23, 24, 25, 40, 55} {
		full := filledUp(t, nth)
		where := fmt.Sprint("/one is the ", nth, "th")
		wantTiers(t, where, full.Devices, 24, 32, 0)
		wantAudited(t, where, full.Devices)
		told, room := nth, []int{23, 32, 0}
		if nth >= 24 {
			told, room = 100+nth-24, []int{24, 31, 0}
		}
		for _, o := range []impl.Op{removeOp("/one"), cutOp("/one", 0)} {
			where := fmt.Sprintf("%s: %+v", where, o)
			f, a := doOp(t, where, full, o)
			if a.Code != impl.OK {
				t.Fatalf("%s has the answer %v", where, a)
			}
			wantTiers(t, where, f.Devices, room...)
			wantAudited(t, where, f.Devices)
			wantFair(t, where, f.Devices, true)
			x := startOp(t, where, f, writeOp("/g", 7, 77))
			wantLoose(t, where, f.Devices, x.Todo, told)
			f, a = takeAnswer(t, where, finishFs(t, where, x))
			if a.Code != impl.OK {
				t.Fatalf("%s: a write behind it has the answer %v", where, a)
			}
			wantTiers(t, where+", written", f.Devices, 24, 32, 0)
			wantFair(t, where+", written", f.Devices, false)
			wantAudited(t, where+", written", f.Devices)
		}
	}
}

// Each cut of each file gives back as many addresses as pages, so that as many can be written again.
func TestP14CutsMakeRoom(t *testing.T) {
	m := fullImage()
	full := resting(m)
	for n := 1; n <= lastInode; n++ {
		path := "/" + nameOf(n)
		size := m.Inodes[n].Size
		for kept := range size + 1 {
			where := fmt.Sprint("a cut of ", path, " to ", kept)
			f, _ := doOp(t, where, full, cutOp(path, kept))
			wantFair(t, where, f.Devices, kept < size)
			wantPlaced(t, where, f.Devices)
			for page := kept; page < size; page++ {
				// If the page is there already, its old address is free again.
				x, a := doOp(t, where, f, writeOp("/b", 7-page, 5))
				if a.Code != impl.OK {
					t.Fatalf("%s: a write has the answer %v", where, a)
				}
				wantPlaced(t, where, x.Devices)
				f = x
			}
		}
	}
}

// What gives no address back leaves it full.
func TestP14StillFull(t *testing.T) {
	for _, nth := range []int{3, 30} {
		f := filledUp(t, nth)
		for _, o := range []impl.Op{
			linkOp("/one", "/two"), removeOp("/one"), renameOp("/two", "/one"), mkdirOp("/x"), makeOp("/x/y"), cutOp("/x/y", 8), cutOp("/x/y", 3), removeOp("/x/y"), removeOp("/x"),
			cutOp("/one", 8), cutOp("/one", 1), cutOp("/one", 5), readOp("/one", 0), statOp("/one"), listOp("/"),
		} {
			where := fmt.Sprintf("the %dth, %+v", nth, o)
			x, a := doOp(t, where, f, o)
			if a.Code != impl.OK {
				t.Fatalf("%s has the answer %v", where, a)
			}
			f = x
			wantFair(t, where, f.Devices, false)
			wantAudited(t, where, f.Devices)
		}
		wantTiers(t, "still full", f.Devices, 24, 32, 4)
		for page := range mostPages {
			if _, a := doOp(t, "still full", f, writeOp("/one", page, 5)); a.Code != impl.ErrFull {
				t.Errorf("a write of page %d, which may be nowhere, has the answer %v", page, a)
			}
		}
	}
}

// A write that is wrong in another thing is told that, be it full or not.
func TestP14WrongWritesAreNotToldOfRoom(t *testing.T) {
	for _, h := range roomyHosts() {
		for _, c := range []struct {
			op   impl.Op
			code int
		}{
			{writeOp("/f", 8, 5), impl.ErrRange}, {writeOp("/f", -1, 5), impl.ErrRange}, {writeOp("/f", 0, impl.MaxWord), impl.ErrRange},
			{writeOp("/d", 0, 5), impl.ErrDir}, {writeOp("/", 0, 5), impl.ErrDir}, {writeOp("/nobody", 0, 5), impl.ErrNone}, {writeOp("/f/x", 0, 5), impl.ErrNoDir}, {writeOp("/f", 0, 5), h.write},
		} {
			if _, a, code := impl.PlanOp(h.devices, c.op); code != impl.OK || a.Code != c.code {
				t.Errorf("%s: %+v has the answer %v, not %d", h.name, c.op, a, c.code)
			}
		}
		wantFair(t, h.name, h.devices, h.write == impl.OK)
	}
}

// With one address free a page is written anew as often as one likes: each time its old address is free.
func TestP14OneFreeAddressIsEnough(t *testing.T) {
	for _, room := range [][2]int{{1, 0}, {0, 1}} {
		f := resting(packed(room[0], room[1]))
		for n := range 40 {
			where := fmt.Sprint(room, ", write ", n)
			x, a := doOp(t, where, f, writeOp("/zzzzzz", []int{0, 1, 3, 4, 7}[n%5], n))
			if a.Code != impl.OK {
				t.Fatalf("%s has the answer %v", where, a)
			}
			f = x
			wantPlaced(t, where, f.Devices)
			wantFair(t, where, f.Devices, true)
			if n := len(freeByHand(imageByHand(t, where, f.Devices))); n != 1 {
				t.Fatalf("%s: %d addresses are free", where, n)
			}
		}
		f, _ = doOp(t, "the last one", f, writeOp("/zzzzzz", 2, 5))
		wantFair(t, "the last one", f.Devices, false)
	}
}

func TestP14LooseOfPlans(t *testing.T) {
	small, sector := housed(smallImage()), housed(packed(0, 1))
	for _, c := range []struct {
		name    string
		devices impl.Devices
		op      impl.Op
		want    []int
	}{
		{"a write of a page that is there", small, writeOp("/f", 0, 5), []int{3}},
		{"of one that is nowhere", small, writeOp("/f", 1, 5), []int{3}},
		{"of one on a sector", small, writeOp("/f", 2, 5), []int{3}},
		{"behind the end", small, writeOp("/f", 7, 0), []int{3}},
		{"on a sector", sector, writeOp("/f", 0, 5), []int{130}},
		{"on a sector, behind the end", sector, writeOp("/d/d/e", 4, 5), []int{130}},
		{"without room", housed(packed(0, 0)), writeOp("/f", 0, 5), nil},
		{"on the first page", done(t, "a file", impl.NewDevices(), makeOp("/f")), writeOp("/f", 0, 5), []int{0}},
		{"of no file", small, writeOp("/nobody", 0, 5), nil},
		{"a cut of all", small, cutOp("/zzzzzz", 0), nil},
		{"a cut of some", small, cutOp("/zzzzzz", 3), nil},
		{"a cut that is longer", small, cutOp("/f", 8), nil},
		{"a file", small, makeOp("/new"), nil},
		{"a directory", small, mkdirOp("/new"), nil},
		{"a remove of a file and its pages", small, removeOp("/zzzzzz"), nil},
		{"a remove of one name", small, removeOp("/f"), nil},
		{"a link", small, linkOp("/f", "/new"), nil},
		{"a rename", small, renameOp("/d", "/new"), nil},
		{"a read", small, readOp("/f", 0), nil},
	} {
		plan, _, code := impl.PlanOp(c.devices, c.op)
		if code != impl.OK {
			t.Fatalf("%s: PlanOp has the code %d", c.name, code)
		}
		wantLoose(t, c.name, c.devices, plan, c.want...)
	}
	for _, c := range []struct {
		name    string
		devices impl.Devices
		move    mover
		spot    spot
		want    int
	}{
		{"down", small, demote(), spot{1, 0}, 101},
		{"down, the last page of a file", small, demote(), spot{15, 7}, 101},
		{"down onto the only one", sector, demote(), spot{15, 0}, 130},
		{"up", small, promote(), spot{1, 2}, 3},
		{"up onto the only one", housed(packed(1, 0)), promote(), spot{15, 1}, 22},
	} {
		plan, code := c.move.call(c.devices, c.spot.inode, c.spot.page)
		if code != impl.OK {
			t.Fatalf("%s: the plan has the code %d", c.name, code)
		}
		wantLoose(t, c.name, c.devices, plan, c.want)
		// Behind the steps the address is used; the one that it had is not.
		after := do(t, c.devices, plan...)
		old := imageByHand(t, c.name, c.devices).Inodes[c.spot.inode].Map[c.spot.page]
		wantLoose(t, c.name+", done", after, plan)
		wantLoose(t, c.name+", done", after, stepsOnto(old, 5), looseName(old))
		wantLoose(t, c.name+", ahead", c.devices, stepsOnto(old, 5))
	}
}

// Nothing that is done stores to an address that a page has: what is in the midst loses no page.
func TestP14StepsAreLoose(t *testing.T) {
	onto := 0
	for _, x := range begunAnywhere(t) {
		var want []int
		for _, s := range x.fs.Todo {
			if entry := entryOfStep(s); entry != 0 {
				want = append(want, looseName(entry))
			}
		}
		wantLoose(t, x.name, x.fs.Devices, x.fs.Todo, want...)
		if len(want) > 1 {
			t.Errorf("%s: more than one page is stored: %v", x.name, want)
		}
		onto += len(want)
	}
	if onto < 8 {
		t.Errorf("only %d steps stored a page", onto)
	}
}

// Each place of the memory and each sector, on devices without pages and on full ones.
func TestP14LooseOfEachAddress(t *testing.T) {
	bare, full := housed(bareImage()), housed(fullImage())
	for at := range impl.PmSize {
		var want []int
		if at >= 312 {
			want = []int{at - 312}
		}
		for _, v := range []int{0, 5, impl.MaxWord - 1} {
			wantLoose(t, "bare", bare, []impl.Micro{storeStep(at, v)}, want...)
			wantLoose(t, "full", full, []impl.Micro{storeStep(at, v)})
		}
		wantLoose(t, "a flush", bare, []impl.Micro{flushStep(at)})
	}
	for at := range impl.BlkSize {
		for _, v := range []int{0, 5, impl.MaxWord - 1} {
			wantLoose(t, "bare", bare, []impl.Micro{writeStep(at, v)}, 100+at)
			wantLoose(t, "full", full, []impl.Micro{writeStep(at, v)})
		}
	}
	// One address that is free, all others being used, and the other way round.
	for _, entry := range everyAddress() {
		steps := stepsOnto(entry, 5)
		m := fullImage()
		for i := range m.Inodes {
			if page := slices.Index(m.Inodes[i].Map[:], entry); page >= 0 {
				m.Inodes[i].Map[page] = 0
			}
		}
		wantLoose(t, "one is free", housed(m), steps, looseName(entry))
		wantFair(t, "one is free", housed(m), true)
		one := bareImage()
		one.Inodes[1] = fileOf(0, entry)
		addName(&one, 1)
		wantLoose(t, "one is used", housed(one), steps)
		for _, other := range everyAddress() {
			if other != entry {
				wantLoose(t, "one is free", housed(m), stepsOnto(other, 5))
				wantLoose(t, "one is used", housed(one), stepsOnto(other, 5), looseName(other))
			}
		}
	}
}

func TestP14LooseStepByStep(t *testing.T) {
	small := housed(smallImage())
	for _, c := range []struct {
		name string
		list []impl.Micro
		want []int
	}{
		{"none", nil, nil},
		{"an empty list", []impl.Micro{}, nil},
		{"nothing but flushes, fences and barriers", []impl.Micro{flushStep(312), fenceStep(), flushStep(335), fenceStep(), barrierStep()}, nil},
		{"words that are no pages", []impl.Micro{storeStep(0, 7), storeStep(8, 1), storeStep(48, 2), storeStep(240, 0), storeStep(311, 5)}, nil},
		{"the last word that is no page, and the first page", []impl.Micro{storeStep(311, 5), storeStep(312, 5), storeStep(315, 5)}, []int{3}},
		{"in their order", []impl.Micro{writeStep(30, 5), storeStep(334, 5), writeStep(1, 5), storeStep(315, 5)}, []int{130, 22, 101, 3}},
		{"used ones", []impl.Micro{storeStep(312, 5), storeStep(313, 5), storeStep(314, 5), storeStep(335, 5), writeStep(0, 5), writeStep(2, 5), writeStep(31, 5)}, nil},
		{"the same one twice", []impl.Micro{storeStep(317, 5), storeStep(317, 6)}, []int{5, 5}},
		{"the same ones, others between", []impl.Micro{storeStep(317, 5), writeStep(5, 5), storeStep(317, 5), writeStep(5, 5), storeStep(317, 5)}, []int{5, 105, 5, 105, 5}},
		{"one number in both tiers, used in one", []impl.Micro{storeStep(314, 5), writeStep(2, 5), storeStep(313, 5), writeStep(1, 5), storeStep(335, 5), writeStep(23, 5)}, []int{101, 123}},
		{"used and not", []impl.Micro{storeStep(312, 5), storeStep(316, 5), writeStep(0, 5), writeStep(4, 5), storeStep(312, 5)}, []int{4, 104}},
		// What the steps map or let go of is not asked for: used is what is used ahead of them.
		{"one that the steps map first", []impl.Micro{storeStep(64, pageEntry(5)), flushStep(64), fenceStep(), storeStep(317, 5)}, []int{5}},
		{"one that the steps let go of first", []impl.Micro{storeStep(63, 0), flushStep(63), fenceStep(), storeStep(312, 5)}, nil},
		{"steps that leave no right image", []impl.Micro{storeStep(0, 0), flushStep(0), fenceStep(), storeStep(317, 5)}, []int{5}},
	} {
		wantLoose(t, c.name, small, c.list, c.want...)
		if got := looseByHand(smallImage(), c.list); !slices.Equal(got, c.want) {
			t.Errorf("%s: the second telling is %v", c.name, got)
		}
	}
	// What is used is asked as it is loaded.
	more := unsure(small, []impl.Store{{At: 64, Value: pageEntry(5)}, {At: 63, Value: 0}}, nil)
	wantLoose(t, "as it is loaded", more, []impl.Micro{storeStep(317, 5), storeStep(312, 5), storeStep(318, 5)}, 0, 6)
	// No store counts that is only waiting: an address is used by its page alone.
	waiting := unsure(small, []impl.Store{{At: 317, Value: 5}}, []impl.Sector{{At: 5, Value: 5}})
	wantLoose(t, "stores that wait", waiting, []impl.Micro{storeStep(317, 5), writeStep(5, 5)}, 5, 105)
}

func TestP14LooseOfAsManyAsThereMayBe(t *testing.T) {
	small := housed(smallImage())
	list := slices.Repeat([]impl.Micro{storeStep(317, 5), writeStep(5, 5)}, impl.MaxList/2)
	wantLoose(t, "a full list", small, list, slices.Repeat([]int{5, 105}, impl.MaxList/2)...)
	wantLoose(t, "a full list of fences", small, fences(impl.MaxList))
	wantLoose(t, "a full list on full devices", housed(fullImage()), list)
}

func TestP14RolledLoose(t *testing.T) {
	d := &dice{state: 141}
	loose, used := 0, 0
	for n := range 2000 {
		m := rollImage(d)
		if n%5 == 0 {
			m = packed(d.roll(3), d.roll(3))
		}
		list := rollSteps(d)
		want := looseByHand(m, list)
		wantLoose(t, fmt.Sprint("image ", n), housed(m), list, want...)
		loose += len(want)
		used += len(looseByHand(bareImage(), list)) - len(want)
	}
	if loose < 2000 || used < 2000 {
		t.Errorf("%d addresses were loose and %d used", loose, used)
	}
}

// In the midst of steps too, wherever there is a right image, each page is at one address.
func TestP14InTheMidst(t *testing.T) {
	right, wrong := 0, 0
	for _, x := range begunAnywhere(t) {
		f := x.fs
		for n := 0; ; n++ {
			where := fmt.Sprint(x.name, ", ", n, " steps")
			wantSure(t, where, f, len(f.Todo) == 0)
			if _, ok := readByHand(wordsByHand(f.Devices.Pm)); ok {
				wantAudited(t, where, f.Devices)
				right++
			} else {
				for _, c := range auditCalls(f.Devices, f.Todo...) {
					wantCode(t, where, c, impl.ErrBad)
				}
				wrong++
			}
			if len(f.Todo) == 0 {
				break
			}
			f = steppedByHand(t, f, 1)
		}
		wantAudited(t, x.name+", finished", f.Devices)
	}
	if right < 100 || wrong < 10 {
		t.Errorf("there were %d right images and %d that were not", right, wrong)
	}
}

// Behind a crash and a recovery each page is at one address, and all is sure.
func TestP14BehindCrashes(t *testing.T) {
	d := &dice{state: 142}
	for _, x := range begunAnywhere(t) {
		f := x.fs
		for n := 0; ; n++ {
			where := fmt.Sprint(x.name, ", ", n, " steps")
			r := recovered(t, where, f, rollKeeps(d))
			wantAudited(t, where, r.Devices)
			wantSure(t, where, r, true)
			if len(f.Todo) == 0 {
				break
			}
			f = steppedByHand(t, f, 1)
		}
	}
}

// rollAudited does a rolled operation or move, or crashes in its midst; it tells what it did.
func rollAudited(t *testing.T, d *dice, where string, f impl.Fs) (impl.Fs, string) {
	t.Helper()
	if d.roll(3) == 0 {
		up := d.roll(2) == 0
		x, code := impl.StartMove(f, up)
		if code != impl.OK {
			return f, "no move"
		}
		wantSure(t, where+": begun", x, false)
		return finishFs(t, where, x), fmt.Sprint("move ", up)
	}
	o := rollOpOf(d, f)
	x := startOp(t, where, f, o)
	wantSure(t, where+": begun", x, len(x.Todo) == 0)
	if len(x.Todo) > 0 && d.roll(8) == 0 {
		x = steppedByHand(t, x, d.roll(len(x.Todo)))
		return recovered(t, where, x, rollKeeps(d)), "crash"
	}
	fair, _ := impl.FairWrite(f.Devices)
	x, a := takeAnswer(t, where, finishFs(t, where, x))
	if o.Kind == impl.OpWrite && (a.Code == impl.ErrFull && fair || a.Code == impl.OK && !fair) {
		t.Fatalf("%s: FairWrite is %v, and a write has the answer %v", where, fair, a)
	}
	if a.Code == impl.ErrFull && o.Kind == impl.OpWrite {
		return x, "full write"
	}
	return x, fmt.Sprint("kind ", o.Kind, ", ok: ", a.Code == impl.OK)
}

func TestP14RolledRuns(t *testing.T) {
	d := &dice{state: 143}
	count := map[string]int{}
	for n := range 40 {
		f, steps := impl.NewFs(), 120
		switch n % 4 {
		case 1:
			f, steps = resting(rollImage(d)), 50
		case 2, 3:
			f, steps = resting(packed(d.roll(2), d.roll(2))), 25
		}
		f.Heat = rollHeat(d, 5)
		for step := range steps {
			where := fmt.Sprint("run ", n, ", step ", step)
			after, did := rollAudited(t, d, where, f)
			wantAudited(t, where, after.Devices)
			wantSure(t, where, after, true)
			count[did]++
			f = after
		}
	}
	for kind := impl.OpMake; kind <= impl.OpList; kind++ {
		if name := fmt.Sprint("kind ", kind, ", ok: true"); count[name] < 10 {
			t.Errorf("%s came only %d times: %v", name, count[name], count)
		}
	}
	for _, name := range []string{"move true", "move false", "crash", "full write"} {
		if count[name] < 20 {
			t.Errorf("%s came only %d times: %v", name, count[name], count)
		}
	}
}

func TestP14SureSystems(t *testing.T) {
	for _, x := range slices.Concat(restingSystems(), waitingSystems()) {
		wantSure(t, x.name, x.fs, true)
		wantSure(t, x.name+", a step", changedFs("", x.fs, func(f *impl.Fs) { f.Todo = fences(1) }).fs, false)
		wantSure(t, x.name+", as many steps as there may be", changedFs("", x.fs, func(f *impl.Fs) { f.Todo = fences(mostTodo) }).fs, false)
	}
	for _, x := range busySystems() {
		wantSure(t, x.name, x.fs, false)
	}
	for _, x := range begun(t) {
		wantSure(t, x.name, x.fs, len(x.fs.Todo) == 0)
		finished := finishFs(t, x.name, x.fs)
		wantSure(t, x.name+", finished", finished, true)
	}
}

// A store or a write that is not sure: with something to be done it is not sure yet, without it is not right.
func TestP14NotSure(t *testing.T) {
	for _, waits := range []bool{false, true} {
		for _, x := range unsureParts(housed(smallImage())) {
			f := resting(smallImage())
			f.Devices, f.Fresh = x.devices, waits
			wantCode(t, x.name, sureCall(f), impl.ErrBad)
			f.Todo = fences(1)
			if x.name == "as many as there may be" {
				// There is no room for one more step.
				wantCode(t, x.name, sureCall(f), impl.ErrBad)
				continue
			}
			wantSure(t, x.name, f, false)
		}
	}
}
