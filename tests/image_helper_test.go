package tests

import (
	"slices"
	"strings"
	"testing"

	"loop.example/g00410/impl"
)

const (
	lastInode  = 15
	lastDirent = 23
)

func pageEntry(addr int) int { return 4*addr + impl.TierPm }

func sectorEntry(addr int) int { return 4*addr + impl.TierBlk }

// fileOf has as many pages as there are entries.
func fileOf(links int, entries ...int) impl.Inode {
	x := impl.Inode{Kind: impl.KindFile, Size: len(entries), Links: links}
	copy(x.Map[:], entries)
	return x
}

func directory() impl.Inode { return impl.Inode{Kind: impl.KindDir, Links: 1} }

func freeEntry() impl.Dirent { return impl.Dirent{Child: -1} }

// bareImage has the root alone.
func bareImage() impl.Image {
	m := impl.Image{Inodes: make([]impl.Inode, lastInode+1), Dirents: make([]impl.Dirent, lastDirent+1)}
	m.Inodes[0] = directory()
	for k := range m.Dirents {
		m.Dirents[k] = freeEntry()
	}
	return m
}

// smallImage has directories three deep, the last one empty, a file of two names, pages of both tiers and nowhere, and gaps.
func smallImage() impl.Image {
	m := bareImage()
	m.Inodes[1] = fileOf(2, pageEntry(0), 0, sectorEntry(0))
	m.Inodes[2] = directory()
	m.Inodes[3] = directory()
	m.Inodes[4] = fileOf(1)
	m.Inodes[5] = directory()
	m.Inodes[15] = fileOf(1, pageEntry(23), sectorEntry(31), 0, pageEntry(1), sectorEntry(2), 0, 0, pageEntry(2))
	m.Dirents[0] = impl.Dirent{Dir: 0, Name: "f", Child: 1}
	m.Dirents[1] = impl.Dirent{Dir: 0, Name: "d", Child: 2}
	m.Dirents[3] = impl.Dirent{Dir: 2, Name: "g", Child: 1}
	m.Dirents[4] = impl.Dirent{Dir: 2, Name: "d", Child: 3}
	m.Dirents[5] = impl.Dirent{Dir: 3, Name: "e", Child: 4}
	m.Dirents[7] = impl.Dirent{Dir: 3, Name: "aaaaaa", Child: 5}
	m.Dirents[23] = impl.Dirent{Dir: 0, Name: "zzzzzz", Child: 15}
	return m
}

// fullImage has no free inode, entry, page or sector.
func fullImage() impl.Image {
	m := bareImage()
	for i := 1; i <= lastInode; i++ {
		m.Inodes[i] = fileOf(1)
		m.Dirents[i-1] = impl.Dirent{Name: nameOf(i), Child: i}
	}
	for k := lastInode; k <= lastDirent; k++ {
		m.Dirents[k] = impl.Dirent{Name: nameOf(k + 28), Child: 1}
		m.Inodes[1].Links++
	}
	var entries []int
	for addr := range impl.Pages {
		entries = append(entries, pageEntry(addr))
	}
	for addr := range impl.BlkSize {
		entries = append(entries, sectorEntry(addr))
	}
	for n, entry := range entries {
		x := &m.Inodes[1+n%lastInode]
		x.Map[x.Size] = entry
		x.Size++
	}
	return m
}

// chainImage has each directory but the root in the one ahead of it, the root's being the last of the list.
func chainImage() impl.Image {
	m := bareImage()
	for i := 1; i <= lastInode; i++ {
		m.Inodes[i] = directory()
		m.Dirents[lastInode-i] = impl.Dirent{Dir: i - 1, Name: "same", Child: i}
	}
	return m
}

func cloneImage(m impl.Image) impl.Image {
	return impl.Image{Inodes: slices.Clone(m.Inodes), Dirents: slices.Clone(m.Dirents)}
}

func sameImage(a, b impl.Image) bool {
	return slices.Equal(a.Inodes, b.Inodes) && slices.Equal(a.Dirents, b.Dirents)
}

// change makes one image of another.
type change struct {
	name string
	do   func(m *impl.Image)
}

func (c change) of(m impl.Image) impl.Image {
	x := cloneImage(m)
	c.do(&x)
	return x
}

type namedImage struct {
	name  string
	image impl.Image
}

// rightChanges leave smallImage right.
func rightChanges() []change {
	return []change{
		{"as it is", func(m *impl.Image) {}},
		{"the same name in two directories", func(m *impl.Image) { m.Dirents[7].Name = "d" }},
		{"one file twice in one directory", func(m *impl.Image) { m.Dirents[3].Dir = 0 }},
		{"one address in both tiers", func(m *impl.Image) { m.Inodes[4] = fileOf(1, sectorEntry(1), sectorEntry(23)) }},
		{"eight pages, all of them nowhere", func(m *impl.Image) { m.Inodes[4].Size = 8 }},
		{"entries in another order", func(m *impl.Image) { slices.Reverse(m.Dirents) }},
		{"a directory in its sister", func(m *impl.Image) { m.Dirents[7].Dir = 2; m.Dirents[4].Dir = 5 }},
		{"a file that is gone", func(m *impl.Image) { m.Inodes[15] = impl.Inode{}; m.Dirents[23] = freeEntry() }},
		{"a file that has one name less", func(m *impl.Image) { m.Inodes[1].Links = 1; m.Dirents[3] = freeEntry() }},
	}
}

func rightImages() []namedImage {
	list := []namedImage{{"the root alone", bareImage()}, {"full", fullImage()}, {"a chain", chainImage()}}
	for _, c := range rightChanges() {
		list = append(list, namedImage{c.name, c.of(smallImage())})
	}
	most := bareImage()
	most.Inodes[7] = fileOf(lastDirent + 1)
	for k := range most.Dirents {
		most.Dirents[k] = impl.Dirent{Name: nameOf(k + 1), Child: 7}
	}
	return append(list, namedImage{"a file of all names", most})
}

// shapeChanges leave bareImage with too few or too many, or without its root.
func shapeChanges() []change {
	return []change{
		{"nothing", func(m *impl.Image) { *m = impl.Image{} }},
		{"empty lists", func(m *impl.Image) { *m = impl.Image{Inodes: []impl.Inode{}, Dirents: []impl.Dirent{}} }},
		{"no inodes", func(m *impl.Image) { m.Inodes = nil }},
		{"no entries", func(m *impl.Image) { m.Dirents = nil }},
		{"one inode too few", func(m *impl.Image) { m.Inodes = m.Inodes[:lastInode] }},
		{"one inode too many", func(m *impl.Image) { m.Inodes = append(m.Inodes, impl.Inode{}) }},
		{"far too many inodes", func(m *impl.Image) { m.Inodes = append(m.Inodes, make([]impl.Inode, impl.MaxList)...) }},
		{"one entry too few", func(m *impl.Image) { m.Dirents = m.Dirents[:lastDirent] }},
		{"one entry too many", func(m *impl.Image) { m.Dirents = append(m.Dirents, freeEntry()) }},
		{"far too many entries", func(m *impl.Image) { m.Dirents = slices.Repeat(m.Dirents, 200) }},
		{"a root that is a file", func(m *impl.Image) { m.Inodes[0] = fileOf(1) }},
		{"a root that is free", func(m *impl.Image) { m.Inodes[0] = impl.Inode{} }},
		{"a root that is free but for its link", func(m *impl.Image) { m.Inodes[0].Kind = 0 }},
		{"a root without a link", func(m *impl.Image) { m.Inodes[0].Links = 0 }},
		{"a root of two links", func(m *impl.Image) { m.Inodes[0].Links = 2 }},
		{"a root in itself", func(m *impl.Image) { m.Dirents[0] = impl.Dirent{Name: "a", Child: 0} }},
		{"a root in itself, of two links", func(m *impl.Image) {
			m.Inodes[0].Links = 2
			m.Dirents[0] = impl.Dirent{Name: "a", Child: 0}
		}},
	}
}

// setInode changes one inode of smallImage.
func setInode(i int, x impl.Inode) func(m *impl.Image) {
	return func(m *impl.Image) { m.Inodes[i] = x }
}

// setEntry changes one entry of smallImage.
func setEntry(k int, x impl.Dirent) func(m *impl.Image) {
	return func(m *impl.Image) { m.Dirents[k] = x }
}

// inodeChanges leave smallImage with one inode that is wrong by itself.
func inodeChanges() []change {
	var list []change
	for _, x := range wrongInodes() {
		// The file, the directory or the free inode that is made wrong has the links that its entries ask for.
		at := map[int]int{impl.KindFile: 4, impl.KindDir: 5, impl.KindFree: 6}
		if i, ok := at[x.inode.Kind]; ok {
			list = append(list, change{x.name, setInode(i, x.inode)})
		} else {
			list = append(list, change{x.name, setInode(4, x.inode)})
		}
	}
	return append(list,
		change{"a directory of two links and two entries", func(m *impl.Image) {
			m.Inodes[5].Links = 2
			m.Dirents[2] = impl.Dirent{Dir: 2, Name: "two", Child: 5}
		}},
		change{"a directory without a link or an entry", func(m *impl.Image) {
			m.Inodes[5].Links = 0
			m.Dirents[7] = freeEntry()
		}},
		change{"a file without a link or an entry", func(m *impl.Image) {
			m.Inodes[4].Links = 0
			m.Dirents[5] = freeEntry()
		}},
	)
}

type namedInode struct {
	name  string
	inode impl.Inode
}

func withPage(x impl.Inode, page, entry int) impl.Inode {
	x.Map[page] = entry
	return x
}

// wrongInodes break the rules of one inode; none of them hangs on another inode or an entry.
func wrongInodes() []namedInode {
	list := []namedInode{
		{"a free one with a Size", impl.Inode{Size: 1}},
		{"a free one with a Size below 0", impl.Inode{Size: -1}},
		{"a free one with a link", impl.Inode{Links: 1}},
		{"a free one with its first page", withPage(impl.Inode{}, 0, pageEntry(9))},
		{"a free one with its last page", withPage(impl.Inode{}, 7, sectorEntry(9))},
		{"a free one with a Size and a page", withPage(impl.Inode{Size: 1}, 0, pageEntry(9))},
		{"a directory with a Size", impl.Inode{Kind: impl.KindDir, Size: 1, Links: 1}},
		{"a directory with a Size of 8", impl.Inode{Kind: impl.KindDir, Size: 8, Links: 1}},
		{"a directory with a Size below 0", impl.Inode{Kind: impl.KindDir, Size: -1, Links: 1}},
		{"a directory with a Size and a page", withPage(impl.Inode{Kind: impl.KindDir, Size: 1, Links: 1}, 0, pageEntry(9))},
		{"a directory with a page", withPage(directory(), 0, pageEntry(9))},
		{"a directory with its last page", withPage(directory(), 7, sectorEntry(9))},
		{"a directory of two links", impl.Inode{Kind: impl.KindDir, Links: 2}},
		{"a directory without a link", impl.Inode{Kind: impl.KindDir}},
		{"a directory of -1 links", impl.Inode{Kind: impl.KindDir, Links: -1}},
		{"a file without a link", fileOf(0)},
		{"a file with a page behind its end", withPage(fileOf(1), 0, pageEntry(9))},
		{"a file with a page right behind its end", withPage(fileOf(1, pageEntry(9), 0), 2, pageEntry(8))},
		{"a file with its last page behind its end", withPage(fileOf(1, pageEntry(9)), 7, sectorEntry(8))},
		{"a file of seven pages with eight", withPage(fileOf(1, 0, 0, 0, 0, 0, 0, 0), 7, sectorEntry(8))},
	}
	for _, n := range noIndexes(8) {
		list = append(list, namedInode{"a file of no Size", impl.Inode{Kind: impl.KindFile, Size: n, Links: 1}})
	}
	for _, n := range noIndexes(24) {
		list = append(list, namedInode{"a file of no number of links", impl.Inode{Kind: impl.KindFile, Links: n}})
	}
	for _, n := range noIndexes(impl.KindDir) {
		list = append(list, namedInode{"no kind", impl.Inode{Kind: n, Links: 1}}, namedInode{"no kind, but zero", impl.Inode{Kind: n}})
	}
	for _, n := range append(noIndexes(126), 3, 4, 7, 8, 11, 97, 128, 125, 127, 124) {
		list = append(list,
			namedInode{"a first page that is no entry", fileOf(1, n)},
			namedInode{"a last page that is no entry", fileOf(1, 0, 0, 0, 0, 0, 0, 0, n)},
			namedInode{"no entry behind the end", withPage(fileOf(1, 0), 1, n)},
		)
	}
	return list
}

type namedDirent struct {
	name   string
	dirent impl.Dirent
}

// wrongDirents break the rules of one entry; none of them hangs on an inode or another entry.
func wrongDirents() []namedDirent {
	list := []namedDirent{
		{"zero", impl.Dirent{}},
		{"a free one with a directory", impl.Dirent{Dir: 2, Child: -1}},
		{"a free one with a directory below 0", impl.Dirent{Dir: -1, Child: -1}},
		{"a free one with a name", impl.Dirent{Name: "x", Child: -1}},
		{"a free one with no short name", impl.Dirent{Name: "X", Child: -1}},
		{"a free one with both", impl.Dirent{Dir: 2, Name: "x", Child: -1}},
		{"one that leads to the root", impl.Dirent{Dir: 2, Name: "x"}},
	}
	for _, name := range append(noShortNames(), strings.Repeat("a", impl.MaxText+1)) {
		list = append(list, namedDirent{"no short name", impl.Dirent{Name: name, Child: 4}})
	}
	for _, n := range noIndexes(lastInode) {
		list = append(list, namedDirent{"no inode that it leads to", impl.Dirent{Name: "x", Child: n}})
		list = append(list, namedDirent{"no inode that it is in", impl.Dirent{Dir: n, Name: "x", Child: 4}})
	}
	return list
}

// direntChanges leave smallImage with one entry that is wrong by itself, or beside its inodes.
func direntChanges() []change {
	var list []change
	for _, x := range wrongDirents() {
		if x.dirent.Child == 4 {
			// Entry 5 is the one entry of inode 4.
			list = append(list, change{x.name, setEntry(5, x.dirent)})
		} else {
			list = append(list, change{x.name, setEntry(2, x.dirent)})
		}
	}
	return append(list,
		change{"one that leads to a free inode", func(m *impl.Image) { m.Inodes[4] = impl.Inode{} }},
		change{"one more that leads to a free inode", setEntry(2, impl.Dirent{Name: "x", Child: 6})},
		change{"one in a file", func(m *impl.Image) { m.Dirents[5].Dir = 1 }},
		change{"one in the file that it leads to", func(m *impl.Image) { m.Dirents[5].Dir = 4 }},
		change{"one in a free inode", func(m *impl.Image) { m.Dirents[5].Dir = 6 }},
		change{"a directory in a file", func(m *impl.Image) { m.Dirents[7].Dir = 4 }},
		change{"a name twice in the root", func(m *impl.Image) { m.Dirents[23].Name = "f" }},
		change{"a name twice beneath", func(m *impl.Image) { m.Dirents[7].Name = "e" }},
		change{"a file's name twice in one directory", func(m *impl.Image) { m.Dirents[3] = impl.Dirent{Name: "f", Child: 1} }},
		change{"a name twice by a move", func(m *impl.Image) { m.Dirents[4].Dir = 0 }},
	)
}

// wholeChanges leave smallImage with inodes and entries that are right one by one, and wrong beside each other.
func wholeChanges() []change {
	return []change{
		{"a link more than entries", func(m *impl.Image) { m.Inodes[1].Links = 3 }},
		{"a link less than entries", func(m *impl.Image) { m.Inodes[1].Links = 1 }},
		{"as many links as there may be", func(m *impl.Image) { m.Inodes[4].Links = 24 }},
		{"an entry less than links", setEntry(3, freeEntry())},
		{"an entry more than links", setEntry(2, impl.Dirent{Name: "x", Child: 4})},
		{"an entry that leads to another file", func(m *impl.Image) { m.Dirents[3].Child = 4 }},
		{"two files with each other's links", func(m *impl.Image) { m.Inodes[1].Links, m.Inodes[4].Links = 1, 2 }},
		{"a file without entries", setInode(6, fileOf(1))},
		{"a directory without entries", setInode(6, directory())},
		{"a directory of two entries", setEntry(2, impl.Dirent{Name: "x", Child: 5})},
		{"a directory in itself", func(m *impl.Image) { m.Dirents[7].Dir = 5 }},
		{"two directories in each other", func(m *impl.Image) { m.Dirents[4].Dir = 5 }},
		{"three directories in a ring", func(m *impl.Image) { m.Dirents[1].Dir = 5 }},
		{"a directory in a ring of another one", func(m *impl.Image) { m.Dirents[4].Dir = 3 }},
		{"a page twice in a file", func(m *impl.Image) { m.Inodes[1].Map[1] = pageEntry(0) }},
		{"a sector twice in a file", func(m *impl.Image) { m.Inodes[15].Map[6] = sectorEntry(31) }},
		{"a page twice, at both ends of a file", func(m *impl.Image) { m.Inodes[15].Map[7] = pageEntry(23) }},
		{"a page in two files", func(m *impl.Image) { m.Inodes[4] = fileOf(1, pageEntry(23)) }},
		{"a sector in two files", func(m *impl.Image) { m.Inodes[4] = fileOf(1, 0, 0, 0, sectorEntry(0)) }},
		{"the first page in two files", func(m *impl.Image) { m.Inodes[15].Map[2] = pageEntry(0) }},
	}
}

func wrongImages() []namedImage {
	var list []namedImage
	for _, c := range shapeChanges() {
		list = append(list, namedImage{c.name, c.of(bareImage())})
	}
	for _, c := range slices.Concat(inodeChanges(), direntChanges(), wholeChanges()) {
		list = append(list, namedImage{c.name, c.of(smallImage())})
	}
	return list
}

// imageCalls are all calls of chapter 6 that are asked of an image.
func imageCalls(m impl.Image, tier, dir int) []asked {
	return []asked{
		ask("FreeInode", impl.FreeInode, m),
		ask("FreePage", impl.FreePage, m),
		ask("FreeSector", impl.FreeSector, m),
		ask("UsedBy", impl.UsedBy, m, tier),
		ask("EntriesOf", impl.EntriesOf, m, dir),
	}
}

// toldAs is the word of a name, told by its letters: 0 of no letters.
func toldAs(name string) int {
	n := 0
	for _, b := range []byte(name) {
		n = 27*n + int(b-'a') + 1
	}
	return n
}

func isTold(name string) bool {
	return name == "" || nameOf(toldAs(name)) == name
}

// canBeTold is true of images whose numbers are words, be they right or not.
func canBeTold(m impl.Image) bool {
	isWord := func(list ...int) bool {
		return !slices.ContainsFunc(list, func(n int) bool { return n < 0 || n >= impl.MaxWord })
	}
	for _, x := range m.Inodes {
		if !isWord(x.Kind, x.Size, x.Links) || !isWord(x.Map[:]...) {
			return false
		}
	}
	for _, x := range m.Dirents {
		if x.Child >= impl.MaxWord-1 || !isWord(x.Dir, x.Child+1) || !isTold(x.Name) {
			return false
		}
	}
	return len(m.Inodes) == lastInode+1 && len(m.Dirents) == lastDirent+1
}

// memoryOf tells an image, be it right or not, on a memory whose other words are all in use.
func memoryOf(m impl.Image) impl.Pm {
	p := numberedMemory()
	p.Words[0] = 7
	for i, x := range m.Inodes {
		at := 48 + 12*i
		p.Words[at], p.Words[at+1], p.Words[at+2] = x.Kind, x.Size, x.Links
		copy(p.Words[at+3:], x.Map[:])
	}
	for k, x := range m.Dirents {
		at := 240 + 3*k
		p.Words[at], p.Words[at+1], p.Words[at+2] = x.Dir, toldAs(x.Name), x.Child+1
	}
	return p
}

// storesBetween are what makes one memory, which is sure, load as another one.
func storesBetween(from, to impl.Pm) []impl.Store {
	var list []impl.Store
	for at, v := range to.Words {
		if from.Words[at] != v {
			list = append(list, impl.Store{At: at, Value: v, Flushed: at%2 == 0})
		}
	}
	return list
}

func wantImage(t *testing.T, where string, p impl.Pm, want impl.Image) {
	t.Helper()
	got, code := impl.ReadImage(p)
	if code != impl.OK || !sameImage(got, want) {
		t.Errorf("%s: ReadImage has the code %d, or reads another image: %v", where, code, got)
	}
}
