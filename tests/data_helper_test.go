package tests

import (
	"cmp"
	"fmt"
	"maps"
	"slices"
	"strings"
	"testing"

	"loop.example/g00410/impl"
)

const mostPages = 8

// housed are an image's devices, with nothing to be made sure: page a of the memory is 1312 and a, sector s is 1000 and s.
func housed(m impl.Image) impl.Devices {
	d := devicesOf(m)
	d.Blk = numberedDevice()
	return d
}

// unsure are the same devices with stores and writes that are not sure yet.
func unsure(d impl.Devices, stores []impl.Store, writes []impl.Sector) impl.Devices {
	return impl.Devices{
		Pm:  impl.Pm{Words: d.Pm.Words, Pending: slices.Concat(d.Pm.Pending, stores)},
		Blk: impl.Blk{Sectors: d.Blk.Sectors, Pending: slices.Concat(d.Blk.Pending, writes)},
	}
}

func wordsByHand(p impl.Pm) []int {
	words := slices.Clone(p.Words)
	for _, s := range p.Pending {
		words[s.At] = s.Value
	}
	return words
}

func sectorsByHand(b impl.Blk) []int {
	sectors := slices.Clone(b.Sectors)
	for _, w := range b.Pending {
		sectors[w.At] = w.Value
	}
	return sectors
}

func imageByHand(t *testing.T, where string, d impl.Devices) impl.Image {
	t.Helper()
	m, ok := readByHand(wordsByHand(d.Pm))
	if !ok || !impl.DevicesOK(d) {
		t.Fatalf("%s: the devices have no right image", where)
	}
	return m
}

// contentsByHand are the pages of all files, by their inodes.
func contentsByHand(m impl.Image, d impl.Devices) map[int][]int {
	words, sectors := wordsByHand(d.Pm), sectorsByHand(d.Blk)
	contents := map[int][]int{}
	for i, x := range m.Inodes {
		if x.Kind != impl.KindFile {
			continue
		}
		pages := make([]int, x.Size)
		for page := range pages {
			switch entry := x.Map[page]; entry % 4 {
			case 1:
				pages[page] = words[312+entry/4]
			case 2:
				pages[page] = sectors[entry/4]
			}
		}
		contents[i] = pages
	}
	return contents
}

// wantPages asks for the pages of a file one by one and all at once, and that there are no others.
func wantPages(t *testing.T, where string, d impl.Devices, path string, want ...int) {
	t.Helper()
	if got, code := impl.PagesOf(d, path); code != impl.OK || !slices.Equal(got, want) {
		t.Errorf("%s: PagesOf %q is %v, code %d, not %v", where, path, got, code, want)
	}
	for page := -1; page <= mostPages+1; page++ {
		wanted, wantedCode := 0, impl.ErrRange
		if 0 <= page && page < len(want) {
			wanted, wantedCode = want[page], impl.OK
		}
		if got, code := impl.ReadPage(d, path, page); got != wanted || code != wantedCode {
			t.Errorf("%s: ReadPage %d of %q is %d, code %d, not %d, code %d", where, page, path, got, code, wanted, wantedCode)
		}
	}
}

// wantContents asks for what all paths lead to: the pages of a file, or a directory.
func wantContents(t *testing.T, where string, d impl.Devices, paths map[string]int, contents map[int][]int) {
	t.Helper()
	for path, i := range paths {
		if strings.Count(path, "/") > mostNames {
			continue
		}
		if pages, ok := contents[i]; ok {
			wantPages(t, where, d, path, pages...)
			continue
		}
		if pages, code := impl.PagesOf(d, path); code != impl.ErrDir || len(pages) > 0 {
			t.Errorf("%s: PagesOf the directory %q is %v, code %d", where, path, pages, code)
		}
		if v, code := impl.ReadPage(d, path, 0); code != impl.ErrDir || v != 0 {
			t.Errorf("%s: ReadPage of the directory %q is %d, code %d", where, path, v, code)
		}
	}
}

func fileByHand(m impl.Image, path string) (int, int) {
	i, code := lookupByHand(m, path)
	if code == impl.OK && m.Inodes[i].Kind == impl.KindDir {
		return 0, impl.ErrDir
	}
	return i, code
}

// stepsOnto put a word where an entry says, and make it sure.
func stepsOnto(entry, value int) []impl.Micro {
	if entry%4 == 1 {
		at := 312 + entry/4
		return []impl.Micro{storeStep(at, value), flushStep(at), fenceStep()}
	}
	return []impl.Micro{writeStep(entry/4, value), barrierStep()}
}

// writeByHand, cutByHand and opByHand plan a second time, on images that are right and paths that are some.
func writeByHand(m impl.Image, path string, page, value int) ([]impl.Micro, int) {
	i, code := fileByHand(m, path)
	if code != impl.OK {
		return nil, code
	}
	if page < 0 || page > 7 || value < 0 || value > 1099511627775 {
		return nil, impl.ErrRange
	}
	// The pages of the memory stand ahead of the sectors.
	free := slices.DeleteFunc(everyAddress(), func(entry int) bool { return isMapped(m, entry) })
	if len(free) == 0 {
		return nil, impl.ErrFull
	}
	list := []impl.Update{inodeWord(i, 3+page, free[0])}
	if page >= m.Inodes[i].Size {
		list = append(list, inodeWord(i, 1, page+1))
	}
	return slices.Concat(stepsOnto(free[0], value), wantedNoted(list), wantedApplied(list)), impl.OK
}

func cutByHand(m impl.Image, path string, size int) ([]impl.Update, int) {
	i, code := fileByHand(m, path)
	if code != impl.OK {
		return nil, code
	}
	if size < 0 || size > 8 {
		return nil, impl.ErrRange
	}
	list := []impl.Update{inodeWord(i, 1, size)}
	for page, entry := range m.Inodes[i].Map {
		if page >= size && entry != 0 {
			list = append(list, inodeWord(i, 3+page, 0))
		}
	}
	return list, impl.OK
}

func statByHand(m impl.Image, path string) (int, int) {
	i, code := lookupByHand(m, path)
	if code != impl.OK {
		return 0, code
	}
	if m.Inodes[i].Kind == impl.KindDir {
		return 201, impl.OK
	}
	return 100 + 10*m.Inodes[i].Size + min(9, namesByHand(m, i)), impl.OK
}

func listByHand(m impl.Image, path string) ([]string, int) {
	dir, code := lookupByHand(m, path)
	if code == impl.OK && m.Inodes[dir].Kind != impl.KindDir {
		code = impl.ErrNoDir
	}
	if code != impl.OK {
		return nil, code
	}
	var names []string
	for other := range pathsByHand(m) {
		if above, name := aboveAndName(other); cmp.Or(above, "/") == path {
			names = append(names, name)
		}
	}
	slices.Sort(names)
	return names, impl.OK
}

func readByHandOf(m impl.Image, d impl.Devices, path string, page int) (int, int) {
	i, code := fileByHand(m, path)
	if code != impl.OK {
		return 0, code
	}
	if pages := contentsByHand(m, d)[i]; 0 <= page && page < len(pages) {
		return pages[page], impl.OK
	}
	return 0, impl.ErrRange
}

// nameCallOf is the plan of names that an operation is handed on to; false if it is none.
func nameCallOf(o impl.Op) (nameCall, bool) {
	switch o.Kind {
	case 1, 2:
		return makeCall(o.Path, o.Kind), true
	case 3:
		return removeCall(o.Path), true
	case 4:
		return linkCall(o.Path, o.To), true
	case 5:
		return renameCall(o.Path, o.To), true
	}
	return nameCall{}, false
}

func opByHand(m impl.Image, d impl.Devices, o impl.Op) ([]impl.Micro, impl.Answer) {
	var a impl.Answer
	var list []impl.Update
	switch o.Kind {
	case 6:
		steps, code := writeByHand(m, o.Path, o.Page, o.Value)
		return steps, impl.Answer{Code: code}
	case 7:
		list, a.Code = cutByHand(m, o.Path, o.Page)
	case 8:
		a.Value, a.Code = readByHandOf(m, d, o.Path, o.Page)
	case 9:
		a.Value, a.Code = statByHand(m, o.Path)
	case 10:
		a.Names, a.Code = listByHand(m, o.Path)
	default:
		c, _ := nameCallOf(o)
		list, a.Code = c.byHand(m)
	}
	if len(list) == 0 {
		return nil, a
	}
	return slices.Concat(wantedNoted(list), wantedApplied(list)), a
}

// behindByHand are all paths, and the pages of all files, as they are behind an operation that has no code.
func behindByHand(m impl.Image, d impl.Devices, o impl.Op) (map[string]int, map[int][]int) {
	paths, contents := pathsByHand(m), contentsByHand(m, d)
	if c, ok := nameCallOf(o); ok {
		paths = c.pathsBehind(m)
		if o.Kind == impl.OpMake {
			contents[paths[o.Path]] = nil
		}
		there := slices.Collect(maps.Values(paths))
		maps.DeleteFunc(contents, func(i int, _ []int) bool { return !slices.Contains(there, i) })
		return paths, contents
	}
	i := paths[o.Path]
	switch o.Kind {
	case 6:
		pages := slices.Concat(contents[i], make([]int, max(0, o.Page+1-len(contents[i]))))
		pages[o.Page] = o.Value
		contents[i] = pages
	case 7:
		longest := slices.Concat(contents[i], make([]int, mostPages))
		contents[i] = longest[:o.Page]
	}
	return paths, contents
}

func sameAnswer(a, b impl.Answer) bool {
	return a.Code == b.Code && a.Value == b.Value && slices.Equal(a.Names, b.Names)
}

// wantDone holds an operation's steps and answer, and all files behind it, against a second telling; it answers the devices behind it.
func wantDone(t *testing.T, where string, d impl.Devices, o impl.Op) (impl.Devices, impl.Answer) {
	t.Helper()
	where = fmt.Sprintf("%s: %+v", where, o)
	m := imageByHand(t, where, d)
	want, wanted := opByHand(m, d, o)
	steps, a, code := impl.PlanOp(d, o)
	if code != impl.OK || !impl.OpOK(o) || !slices.Equal(steps, want) || !sameAnswer(a, wanted) {
		t.Fatalf("%s: the steps are %v, the answer %v, code %d, not %v and %v", where, steps, a, code, want, wanted)
	}
	if (a.Code != impl.OK || o.Kind >= impl.OpRead) && len(steps) > 0 {
		t.Fatalf("%s: it takes steps: %v, %v", where, steps, a)
	}
	if a.Code != impl.OK {
		return d, a
	}
	after := do(t, d, steps...)
	got := imageByHand(t, where, after)
	paths, contents := behindByHand(m, d, o)
	wantFound(t, where, got, paths)
	wantContents(t, where, after, paths, contents)
	if isSettled(d.Pm) && len(d.Blk.Pending) == 0 && (!isSettled(after.Pm) || len(after.Blk.Pending) > 0) {
		t.Fatalf("%s: not all is sure", where)
	}
	return after, a
}

// codedOp is an operation with the code that its answer is to have.
type codedOp struct {
	op   impl.Op
	code int
}

func makeOp(path string) impl.Op { return impl.Op{Kind: impl.OpMake, Path: path} }

func mkdirOp(path string) impl.Op { return impl.Op{Kind: impl.OpMkdir, Path: path} }

func removeOp(path string) impl.Op { return impl.Op{Kind: impl.OpRemove, Path: path} }

func linkOp(path, to string) impl.Op { return impl.Op{Kind: impl.OpLink, Path: path, To: to} }

func renameOp(path, to string) impl.Op { return impl.Op{Kind: impl.OpRename, Path: path, To: to} }

func writeOp(path string, page, value int) impl.Op {
	return impl.Op{Kind: impl.OpWrite, Path: path, Page: page, Value: value}
}

func cutOp(path string, size int) impl.Op { return impl.Op{Kind: impl.OpCut, Path: path, Page: size} }

func readOp(path string, page int) impl.Op {
	return impl.Op{Kind: impl.OpRead, Path: path, Page: page}
}

func statOp(path string) impl.Op { return impl.Op{Kind: impl.OpStat, Path: path} }

func listOp(path string) impl.Op { return impl.Op{Kind: impl.OpList, Path: path} }

// wantOps does operations one behind the other, each with its code, and answers the devices behind them.
func wantOps(t *testing.T, where string, d impl.Devices, list ...codedOp) impl.Devices {
	t.Helper()
	for _, x := range list {
		after, a := wantDone(t, where, d, x.op)
		if a.Code != x.code {
			t.Fatalf("%s: %+v has the code %d, not %d", where, x.op, a.Code, x.code)
		}
		d = after
	}
	return d
}

// done does operations that all have no code.
func done(t *testing.T, where string, d impl.Devices, list ...impl.Op) impl.Devices {
	t.Helper()
	for _, o := range list {
		d = wantOps(t, where, d, codedOp{o, impl.OK})
	}
	return d
}

// packed is smallImage with so many free pages and free sectors left, the last ones: other files have the rest.
func packed(pages, sectors int) impl.Image {
	m := smallImage()
	var free [4][]int
	for _, entry := range everyAddress() {
		if !isMapped(m, entry) {
			free[entry%4] = append(free[entry%4], entry)
		}
	}
	taken := slices.Concat(free[1][:len(free[1])-pages], free[2][:len(free[2])-sectors])
	for part := range slices.Chunk(taken, mostPages) {
		i := slices.Index(m.Inodes, impl.Inode{})
		m.Inodes[i] = fileOf(0, part...)
		addName(&m, i)
	}
	return m
}

type roomyHost struct {
	namedPair
	write int
}

// roomyHosts are devices with the code that a write has of what room there is.
func roomyHosts() []roomyHost {
	list := []roomyHost{{namedPair{"small", housed(smallImage())}, impl.OK}}
	for _, room := range []struct{ pages, sectors, code int }{{1, 0, impl.OK}, {1, 1, impl.OK}, {0, 1, impl.OK}, {0, 29, impl.OK}, {20, 0, impl.OK}, {0, 0, impl.ErrFull}} {
		name := fmt.Sprint(room.pages, " pages and ", room.sectors, " sectors are free")
		list = append(list, roomyHost{namedPair{name, housed(packed(room.pages, room.sectors))}, room.code})
	}
	return list
}

// spoiled are devices whose memory loads another word.
func spoiled(at, v int) impl.Devices {
	return unsure(housed(smallImage()), []impl.Store{{At: at, Value: v, Flushed: at%2 == 0}}, nil)
}

// wrongHosts are devices without a right image: the memory is not right, or the block device, or what the words say as they are loaded.
func wrongHosts() []namedPair {
	right := housed(smallImage())
	list := []namedPair{
		{"nothing", impl.Devices{}},
		{"noughts", zeroPair()},
		{"no word 7", housedWith(0, 8)},
		{"no word 7 as it is loaded", spoiled(0, 0)},
		{"a link too many", housedWith(62, 3)},
		{"a link too many as it is loaded", spoiled(62, 3)},
		{"a page behind the end as it is loaded", spoiled(48+12*4+3, pageEntry(9))},
		{"no short name", housedWith(241, 27)},
		{"a free entry with a name", housedWith(247, 1)},
		{"no word in the journal", housedWith(20, -1)},
		{"no word among the pages", housedWith(335, impl.MaxWord)},
		{"a store at no place", spoiled(impl.PmSize, 0)},
		{"a store of no word", spoiled(20, impl.MaxWord)},
		{"one store too many", unsure(right, storesOf(mostStores+1, 20), nil)},
	}
	for _, b := range wrongDevices() {
		list = append(list, namedPair{b.name, impl.Devices{Pm: right.Pm, Blk: b.blk}})
	}
	for _, m := range wrongMemories() {
		list = append(list, namedPair{m.name, impl.Devices{Pm: m.pm, Blk: right.Blk}})
	}
	for _, m := range wrongImages() {
		if canBeTold(m.image) {
			list = append(list, namedPair{m.name, housed(m.image)})
		}
	}
	return append(list, wrongPairs()...)
}

func housedWith(at, v int) impl.Devices {
	d := housed(smallImage())
	d.Pm.Words[at] = v
	return d
}

// filePaths are paths with the code that they have in smallImage where a file is asked for.
func filePaths() []fault {
	list := oldNames()
	for k, x := range list {
		if slices.Contains([]string{"/", "/d", "/d/d", "/d/d/aaaaaa"}, x.path) {
			list[k].code = impl.ErrDir
		}
	}
	return list
}

// anyPaths are the same where a directory will do too.
func anyPaths() []fault {
	list := filePaths()
	for k, x := range list {
		if x.code == impl.ErrDir {
			list[k].code = impl.OK
		}
	}
	return list
}

// sizesOfSmall are of the files of smallImage.
func sizesOfSmall() map[string]int {
	return map[string]int{"/f": 3, "/d/g": 3, "/d/d/e": 0, "/zzzzzz": 8}
}

// numbersToTry are pages, sizes and values that may be some and that can't be.
func numbersToTry() []int {
	list := append(noIndexes(7), noIndexes(impl.MaxWord-1)...)
	for n := -1; n <= mostPages+2; n++ {
		list = append(list, n)
	}
	return append(list, 100, impl.MaxWord-2, impl.MaxWord-1)
}

// rollFile is a path of a file more often than not, as far as there is one.
func rollFile(d *dice, m impl.Image) string {
	paths := pathsByHand(m)
	maps.DeleteFunc(paths, func(path string, i int) bool {
		return m.Inodes[i].Kind != impl.KindFile || strings.Count(path, "/") > mostNames
	})
	if len(paths) == 0 || d.roll(12) == 0 {
		return rollThere(d, m)
	}
	return slices.Sorted(maps.Keys(paths))[d.roll(len(paths))]
}

func rollValue(d *dice) int {
	switch d.roll(16) {
	case 0:
		return 0
	case 1:
		return impl.MaxWord - 1
	case 2:
		return []int{-1, impl.MaxWord}[d.roll(2)]
	}
	return 1 + d.roll(1<<30)
}

func rollOp(d *dice, m impl.Image) impl.Op {
	switch d.roll(16) {
	case 0, 1, 2, 3, 4, 5:
		return writeOp(rollFile(d, m), d.roll(19)%10-1, rollValue(d))
	case 6, 7:
		return cutOp(rollFile(d, m), d.roll(11)-1)
	case 8:
		return readOp(rollFile(d, m), d.roll(10)-1)
	case 9:
		return statOp(rollThere(d, m))
	case 10:
		return listOp(rollThere(d, m))
	}
	return rollNameOp(d, m)
}

func rollNameOp(d *dice, m impl.Image) impl.Op {
	c := rollCall(d, m)
	switch {
	case c.name == "PlanRemove":
		return removeOp(c.path)
	case c.name == "PlanLink":
		return linkOp(c.path, c.to)
	case c.name == "PlanRename":
		return renameOp(c.path, c.to)
	case c.kind == impl.KindDir:
		return mkdirOp(c.path)
	}
	return makeOp(c.path)
}
