package tests

import (
	"fmt"
	"slices"
	"testing"

	"loop.example/g00410/impl"
)

func TestP6RightImages(t *testing.T) {
	for _, m := range rightImages() {
		if !impl.ImageOK(m.image) {
			t.Errorf("%s: ImageOK is false", m.name)
		}
		if !keepsTheRules(m.image) {
			t.Errorf("%s: the tests' own rules are not kept", m.name)
		}
	}
}

func TestP6WrongImages(t *testing.T) {
	for _, m := range wrongImages() {
		if impl.ImageOK(m.image) {
			t.Errorf("%s: ImageOK is true: %.300v", m.name, fmt.Sprint(m.image))
		}
		if keepsTheRules(m.image) {
			t.Errorf("%s: the tests' own rules are kept", m.name)
		}
	}
}

func TestP6NewDevices(t *testing.T) {
	d := impl.NewDevices()
	want := zeroPair()
	want.Pm.Words[0] = 7
	want.Pm.Words[48] = impl.KindDir
	want.Pm.Words[50] = 1
	if !impl.DevicesOK(d) || !samePair(d, want) {
		t.Error("NewDevices has other words", d)
	}
	wantImage(t, "new", d.Pm, bareImage())
	if n, code := impl.JournalCount(d.Pm); n != 0 || code != impl.OK {
		t.Error("the journal of NewDevices has", n, code)
	}
}

func TestP6ImagesAreReadBack(t *testing.T) {
	for _, m := range rightImages() {
		wantImage(t, m.name, memoryOf(m.image), m.image)
	}
}

func TestP6WordsOfWrongImages(t *testing.T) {
	told := 0
	for _, m := range wrongImages() {
		if canBeTold(m.image) {
			wantCode(t, m.name, ask("ReadImage", impl.ReadImage, memoryOf(m.image)), impl.ErrForm)
			told++
		}
	}
	if told < 100 {
		t.Error("only so many wrong images were told:", told)
	}
}

func TestP6WordsThatSayNoImage(t *testing.T) {
	cases := []struct {
		name   string
		stores []impl.Store
	}{
		{"not formatted", []impl.Store{{At: 0, Value: 0}}},
		{"formatted by one less", []impl.Store{{At: 0, Value: 6}}},
		{"formatted by one more", []impl.Store{{At: 0, Value: 8}}},
		{"formatted by the greatest word", []impl.Store{{At: 0, Value: impl.MaxWord - 1}}},
		{"a free entry with a directory", []impl.Store{{At: 246, Value: 2}}},
		{"a free entry with a name", []impl.Store{{At: 247, Value: 1}}},
		{"a free entry with no name's word", []impl.Store{{At: 247, Value: 27}}},
		{"a free entry with both", []impl.Store{{At: 246, Value: 2}, {At: 247, Value: 1}}},
		{"an entry whose last word is 0", []impl.Store{{At: 242, Value: 0}}},
		{"the last entry, whose last word is 0", []impl.Store{{At: 311, Value: 0}}},
		{"an entry without a name", []impl.Store{{At: 241, Value: 0}}},
		{"an entry with no name's word", []impl.Store{{At: 241, Value: 27}}},
		{"an entry with seven letters", []impl.Store{{At: 241, Value: firstSeven + 14900788}}},
		{"an entry that leads to the root", []impl.Store{{At: 242, Value: 1}}},
		{"an entry that leads behind the last inode", []impl.Store{{At: 242, Value: 17}}},
		{"an entry that leads nowhere", []impl.Store{{At: 242, Value: impl.MaxWord - 1}}},
		{"an entry in no directory", []impl.Store{{At: 240, Value: 16}}},
		{"an entry far off", []impl.Store{{At: 240, Value: impl.MaxWord - 1}}},
		{"a free inode with a word", []impl.Store{{At: 48 + 12*6 + 10, Value: 1}}},
		{"an inode of no kind", []impl.Store{{At: 48 + 12*4, Value: 3}}},
		{"a Size that is none", []impl.Store{{At: 48 + 12*4 + 1, Value: impl.MaxWord - 1}}},
	}
	for _, c := range cases {
		said := memoryOf(smallImage())
		for _, s := range c.stores {
			said.Words[s.At] = s.Value
		}
		wantCode(t, c.name, ask("ReadImage", impl.ReadImage, said), impl.ErrForm)
		// The words that are sure are wrong, those that are loaded are not; then the other way.
		said.Pending = storesBetween(said, memoryOf(smallImage()))
		wantImage(t, "mended: "+c.name, said, smallImage())
		loaded := memoryOf(smallImage())
		loaded.Pending = c.stores
		wantCode(t, "stored: "+c.name, ask("ReadImage", impl.ReadImage, loaded), impl.ErrForm)
	}
}

// What no word of an image is may be any word: the journal, the pages, and what stands between.
func TestP6WordsThatSayNothing(t *testing.T) {
	m := smallImage()
	saysNothing := func(at int) bool {
		return 1 <= at && at < 48 || 48 <= at && at < 240 && (at-48)%12 == 11 || at >= 312
	}
	for at := range impl.PmSize {
		if !saysNothing(at) {
			continue
		}
		for _, v := range []int{0, 1, 16, impl.MaxWord - 1} {
			p := memoryOf(m)
			p.Words[at] = v
			wantImage(t, fmt.Sprintf("word %d is %d", at, v), p, m)
		}
	}
}

func TestP6StoresThatAreNotSure(t *testing.T) {
	for _, from := range rightImages() {
		for _, to := range rightImages() {
			p, q := memoryOf(from.image), memoryOf(to.image)
			p.Pending = storesBetween(p, q)
			where := from.name + ", stored as " + to.name
			wantImage(t, where, p, to.image)
			// The newest store of a word counts, whatever was stored ahead of it.
			p.Pending = append(storesBetween(q, p), p.Pending...)
			wantImage(t, "to and fro: "+where, p, to.image)
			p.Pending = append(p.Pending, storesBetween(q, p)...)
			if len(p.Pending) <= mostStores {
				wantImage(t, "and back: "+where, p, from.image)
			}
		}
	}
}

func TestP6MemoriesWithoutAnImage(t *testing.T) {
	for _, m := range rightMemories() {
		wantCode(t, m.name, ask("ReadImage", impl.ReadImage, m.pm), impl.ErrForm)
	}
	for _, m := range wrongMemories() {
		wantCode(t, m.name, ask("ReadImage", impl.ReadImage, m.pm), impl.ErrBad)
	}
	p := memoryOf(smallImage())
	p.Pending = storesOf(mostStores, 20)
	wantImage(t, "most stores", p, smallImage())
	p.Pending = storesOf(mostStores+1, 20)
	wantCode(t, "one store too many", ask("ReadImage", impl.ReadImage, p), impl.ErrBad)
}

// withFiles is a bare image with files of these pages, from inode 1 on.
func withFiles(files ...[]int) impl.Image {
	m := bareImage()
	for n, entries := range files {
		m.Inodes[n+1] = fileOf(1, entries...)
		m.Dirents[n] = impl.Dirent{Name: nameOf(n + 1), Child: n + 1}
	}
	return m
}

func wantFree(t *testing.T, where string, m impl.Image, free func(impl.Image) (int, int), want int) {
	t.Helper()
	if got, code := free(m); got != want || code != impl.OK {
		t.Errorf("%s: %d is free, code %d, not %d", where, got, code, want)
	}
}

func TestP6FreeInodes(t *testing.T) {
	wantFree(t, "none is used", bareImage(), impl.FreeInode, 1)
	wantFree(t, "the first is used", withFiles(nil), impl.FreeInode, 2)
	wantFree(t, "a gap", smallImage(), impl.FreeInode, 6)
	last := bareImage()
	last.Inodes[15] = directory()
	last.Dirents[23] = impl.Dirent{Name: "a", Child: 15}
	wantFree(t, "the last is used", last, impl.FreeInode, 1)
	wantFree(t, "all but the last are used", withFiles(make([][]int, 14)...), impl.FreeInode, 15)
	for _, m := range []impl.Image{withFiles(make([][]int, 15)...), fullImage(), chainImage()} {
		wantCode(t, "all are used", ask("FreeInode", impl.FreeInode, m), impl.ErrFull)
	}
}

// filled has all addresses of a tier in use but for these.
func filled(tier, count int, but ...int) impl.Image {
	var files [][]int
	var entries []int
	for addr := range count {
		if !slices.Contains(but, addr) {
			entries = append(entries, 4*addr+tier)
		}
	}
	for part := range slices.Chunk(entries, 8) {
		files = append(files, part)
	}
	return withFiles(files...)
}

func TestP6FreeAddresses(t *testing.T) {
	cases := []struct {
		name        string
		free, other func(impl.Image) (int, int)
		tier, count int
	}{
		{"FreePage", impl.FreePage, impl.FreeSector, impl.TierPm, 24},
		{"FreeSector", impl.FreeSector, impl.FreePage, impl.TierBlk, 32},
	}
	for _, c := range cases {
		last := c.count - 1
		wantFree(t, c.name+": none is used", bareImage(), c.free, 0)
		wantFree(t, c.name+": the first is used", withFiles([]int{c.tier}), c.free, 1)
		wantFree(t, c.name+": the last is used", withFiles([]int{4*last + c.tier}), c.free, 0)
		wantFree(t, c.name+": both ends are used", withFiles([]int{4*last + c.tier, 0, c.tier}), c.free, 1)
		wantFree(t, c.name+": the last first", withFiles([]int{8 + c.tier, 4 + c.tier}, []int{c.tier}), c.free, 3)
		wantCode(t, "all are used", ask(c.name, c.free, filled(c.tier, c.count)), impl.ErrFull)
		wantCode(t, "all of both are used", ask(c.name, c.free, fullImage()), impl.ErrFull)
		for addr := range c.count {
			where := fmt.Sprint(c.name, ": all but ", addr, " are used")
			wantFree(t, where, filled(c.tier, c.count, addr), c.free, addr)
			wantFree(t, where+", and the last", filled(c.tier, c.count, addr, last), c.free, addr)
		}
		wantFree(t, c.name+": the other tier is used", filled(c.tier, c.count), c.other, 0)
	}
}

// isMapped is true if any page of any inode has this entry.
func isMapped(m impl.Image, entry int) bool {
	return slices.ContainsFunc(m.Inodes, func(x impl.Inode) bool { return slices.Contains(x.Map[:], entry) })
}

func TestP6FreeIsMappedNowhere(t *testing.T) {
	d := &dice{state: 63}
	for range 1000 {
		m := rollImage(d)
		for _, tier := range []int{impl.TierPm, impl.TierBlk} {
			free, count := impl.FreePage, 24
			if tier == impl.TierBlk {
				free, count = impl.FreeSector, 32
			}
			first := -1
			for addr := count - 1; addr >= 0; addr-- {
				if !isMapped(m, 4*addr+tier) {
					first = addr
				}
			}
			got, code := free(m)
			if first < 0 && code != impl.ErrFull || first >= 0 && (code != impl.OK || got != first) {
				t.Fatalf("tier %d: %d is free, code %d, not %d: %v", tier, got, code, first, m)
			}
		}
		i, code := impl.FreeInode(m)
		if code == impl.OK && (m.Inodes[i].Kind != impl.KindFree || slices.Contains(m.Inodes[:i], impl.Inode{})) {
			t.Fatalf("inode %d is not the first free one: %v", i, m)
		}
		if code != impl.OK && slices.Contains(m.Inodes, impl.Inode{}) {
			t.Fatalf("FreeInode has the code %d: %v", code, m)
		}
	}
}

// What is free may be taken: the image stays right until all is taken.
func TestP6FreeUntilFull(t *testing.T) {
	m := withFiles(make([][]int, 15)...)
	for n := range 56 {
		free, tier := impl.FreePage, impl.TierPm
		if n >= 24 {
			free, tier = impl.FreeSector, impl.TierBlk
		}
		addr, code := free(m)
		if code != impl.OK {
			t.Fatalf("behind %d addresses there is the code %d", n, code)
		}
		x := &m.Inodes[1+n%15]
		x.Map[x.Size] = 4*addr + tier
		x.Size++
		if !impl.ImageOK(m) {
			t.Fatalf("behind %d addresses the image is not right", n)
		}
	}
	for _, c := range imageCalls(m, impl.TierPm, 0)[:3] {
		wantCode(t, "all is taken", c, impl.ErrFull)
	}
}

func wantUsed(t *testing.T, where string, m impl.Image, tier int, want ...int) {
	t.Helper()
	if got, code := impl.UsedBy(m, tier); code != impl.OK || !slices.Equal(got, want) {
		t.Errorf("%s: UsedBy of tier %d is %v, code %d, not %v", where, tier, got, code, want)
	}
}

func TestP6UsedAddresses(t *testing.T) {
	wantUsed(t, "bare", bareImage(), impl.TierPm)
	wantUsed(t, "bare", bareImage(), impl.TierBlk)
	wantUsed(t, "small", smallImage(), impl.TierPm, 0, 23, 1, 2)
	wantUsed(t, "small", smallImage(), impl.TierBlk, 0, 31, 2)
	falling := withFiles([]int{pageEntry(9), sectorEntry(30), pageEntry(8)}, nil, []int{0, sectorEntry(3), 0, pageEntry(7), sectorEntry(2)})
	wantUsed(t, "falling", falling, impl.TierPm, 9, 8, 7)
	wantUsed(t, "falling", falling, impl.TierBlk, 30, 3, 2)
	d := &dice{state: 64}
	for n := range 500 {
		m := rollImage(d)
		var used [3][]int
		for _, x := range m.Inodes {
			for _, entry := range x.Map[:x.Size] {
				used[entry%4] = append(used[entry%4], entry/4)
			}
		}
		wantUsed(t, fmt.Sprint("image ", n), m, impl.TierPm, used[impl.TierPm]...)
		wantUsed(t, fmt.Sprint("image ", n), m, impl.TierBlk, used[impl.TierBlk]...)
	}
}

func wantEntries(t *testing.T, where string, m impl.Image, dir int, want ...string) {
	t.Helper()
	if got, code := impl.EntriesOf(m, dir); code != impl.OK || !slices.Equal(got, want) {
		t.Errorf("%s: EntriesOf %d are %q, code %d, not %q", where, dir, got, code, want)
	}
}

func TestP6EntriesOfDirectories(t *testing.T) {
	wantEntries(t, "bare", bareImage(), 0)
	wantEntries(t, "small", smallImage(), 0, "d", "f", "zzzzzz")
	wantEntries(t, "small", smallImage(), 2, "d", "g")
	wantEntries(t, "small", smallImage(), 3, "aaaaaa", "e")
	wantEntries(t, "small", smallImage(), 5)
	wantEntries(t, "chain", chainImage(), 14, "same")
	wantEntries(t, "chain", chainImage(), 15)
	// A name that is the beginning of another comes ahead of it; a word's number would tell another order.
	m := withFiles(make([][]int, 8)...)
	for k, name := range []string{"b", "ab", "z", "aa", "a", "zzzzzz", "aaaaaa", "ba"} {
		m.Dirents[k].Name = name
	}
	wantEntries(t, "by letters", m, 0, "a", "aa", "aaaaaa", "ab", "b", "ba", "z", "zzzzzz")
	d := &dice{state: 65}
	for n := range 500 {
		m := rollImage(d)
		names := map[int][]string{}
		for _, x := range m.Dirents {
			if x != freeEntry() {
				names[x.Dir] = append(names[x.Dir], x.Name)
			}
		}
		for i, x := range m.Inodes {
			if x.Kind == impl.KindDir {
				slices.Sort(names[i])
				wantEntries(t, fmt.Sprint("image ", n), m, i, names[i]...)
			}
		}
	}
}

// updatesFrom are of words one behind the other.
func updatesFrom(at int, values ...int) []impl.Update {
	var list []impl.Update
	for i, v := range values {
		list = append(list, impl.Update{At: at + i, Value: v})
	}
	return list
}

func wantUpdates(t *testing.T, where string, got []impl.Update, code, at int, values ...int) {
	t.Helper()
	want := updatesFrom(at, values...)
	if code != impl.OK || !slices.Equal(got, want) {
		t.Errorf("%s: the updates are %v, code %d, not %v", where, got, code, want)
	}
}

func TestP6UpdatesOfInodes(t *testing.T) {
	most := fileOf(24, 1, 2, 0, 93, 126, 5, 6, 9)
	cases := []struct {
		name   string
		inode  impl.Inode
		values []int
	}{
		{"free", impl.Inode{}, make([]int, 11)},
		{"a directory", directory(), []int{2, 0, 1, 0, 0, 0, 0, 0, 0, 0, 0}},
		{"an empty file", fileOf(1), []int{1, 0, 1, 0, 0, 0, 0, 0, 0, 0, 0}},
		{"a file", fileOf(2, 1, 0, 2), []int{1, 3, 2, 1, 0, 2, 0, 0, 0, 0, 0}},
		{"a file of all pages and links", most, []int{1, 8, 24, 1, 2, 0, 93, 126, 5, 6, 9}},
	}
	for _, c := range cases {
		for i, at := range map[int]int{0: 48, 1: 60, 7: 132, 14: 216, 15: 228} {
			got, code := impl.InodeUpdates(i, c.inode)
			wantUpdates(t, fmt.Sprint(c.name, " at ", i), got, code, at, c.values...)
		}
	}
}

func TestP6UpdatesOfDirents(t *testing.T) {
	cases := []struct {
		name   string
		dirent impl.Dirent
		values []int
	}{
		{"free", freeEntry(), []int{0, 0, 0}},
		{"the first of all", impl.Dirent{Dir: 0, Name: "a", Child: 1}, []int{0, 1, 2}},
		{"the last of all", impl.Dirent{Dir: 15, Name: "zzzzzz", Child: 15}, []int{15, firstSeven - 1, 16}},
		{"another", impl.Dirent{Dir: 2, Name: "ba", Child: 7}, []int{2, 55, 8}},
	}
	for _, c := range cases {
		for k, at := range map[int]int{0: 240, 1: 243, 12: 276, 22: 306, 23: 309} {
			got, code := impl.DirentUpdates(k, c.dirent)
			wantUpdates(t, fmt.Sprint(c.name, " at ", k), got, code, at, c.values...)
		}
	}
}

// updatesOfImage are all updates of all inodes and entries, a part each.
func updatesOfImage(t *testing.T, m impl.Image) [][]impl.Update {
	t.Helper()
	var parts [][]impl.Update
	for i, x := range m.Inodes {
		list, code := impl.InodeUpdates(i, x)
		if code != impl.OK || len(list) != 11 {
			t.Fatalf("inode %d has %d updates, code %d", i, len(list), code)
		}
		parts = append(parts, list)
	}
	for k, x := range m.Dirents {
		list, code := impl.DirentUpdates(k, x)
		if code != impl.OK || len(list) != 3 {
			t.Fatalf("entry %d has %d updates, code %d", k, len(list), code)
		}
		parts = append(parts, list)
	}
	return parts
}

func TestP6UpdatesAreReadBack(t *testing.T) {
	d := &dice{state: 66}
	for n := range 300 {
		p, to := memoryOf(rollImage(d)), rollImage(d)
		for _, list := range updatesOfImage(t, to) {
			for _, u := range list {
				p.Words[u.At] = u.Value
			}
		}
		wantImage(t, fmt.Sprint("image ", n), p, to)
	}
}

// The journal takes what the updates tell, and the image behind it is sure.
func TestP6UpdatesByTheJournal(t *testing.T) {
	devices := impl.NewDevices()
	for _, m := range rightImages() {
		for _, list := range updatesOfImage(t, m.image) {
			devices = do(t, devices, journalPlan(t, list)...)
		}
		if len(devices.Pm.Pending) != 0 {
			t.Errorf("%s: not all is sure", m.name)
		}
		wantImage(t, m.name, devices.Pm, m.image)
	}
}
