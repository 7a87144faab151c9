package tests

import (
	"fmt"
	"slices"
	"strings"
	"testing"

	"loop.example/g00410/impl"
)

// keepsTheRules tells the rules of an image a second time, by what can be come to from the root.
func keepsTheRules(m impl.Image) bool {
	if len(m.Inodes) != 16 || len(m.Dirents) != 24 || m.Inodes[0].Kind != impl.KindDir {
		return false
	}
	entries, names := map[int]int{0: 1}, map[string]bool{}
	for _, x := range m.Dirents {
		if x.Child == -1 && x.Dir == 0 && x.Name == "" {
			continue
		}
		name := fmt.Sprint(x.Dir, " ", x.Name)
		if !keepsDirentRules(m, x) || names[name] {
			return false
		}
		names[name] = true
		entries[x.Child]++
	}
	taken, directories := map[int]bool{0: false}, 0
	for i, x := range m.Inodes {
		if !keepsInodeRules(x, taken) || x.Links != entries[i] {
			return false
		}
		if x.Kind == impl.KindDir {
			directories++
		}
	}
	return directoriesBeneath(m, 0) == directories
}

func keepsDirentRules(m impl.Image, x impl.Dirent) bool {
	if x.Child < 1 || x.Child > 15 || x.Dir < 0 || x.Dir > 15 || x.Name == "" || !isTold(x.Name) {
		return false
	}
	return m.Inodes[x.Child].Kind != impl.KindFree && m.Inodes[x.Dir].Kind == impl.KindDir
}

// keepsInodeRules notes the addresses of an inode beside those that are taken already.
func keepsInodeRules(x impl.Inode, taken map[int]bool) bool {
	switch {
	case x.Size < 0 || x.Size > 8 || x.Links < 0 || x.Links > 24:
		return false
	case x.Kind == impl.KindFree && (x.Size != 0 || x.Links != 0):
		return false
	case x.Kind == impl.KindFile && x.Links == 0:
		return false
	case x.Kind == impl.KindDir && (x.Size != 0 || x.Links != 1):
		return false
	}
	for page, entry := range x.Map {
		onPage, onSector := entry%4 == 1 && 1 <= entry && entry <= 93, entry%4 == 2 && 2 <= entry && entry <= 126
		if entry != 0 && (page >= x.Size || taken[entry] || !onPage && !onSector) {
			return false
		}
		taken[entry] = entry != 0
	}
	return 0 <= x.Kind && x.Kind <= 2
}

// directoriesBeneath counts a directory and all that is come to from it; of a ring nothing is.
func directoriesBeneath(m impl.Image, dir int) int {
	count := 1
	for _, x := range m.Dirents {
		if x.Child > 0 && x.Dir == dir && m.Inodes[x.Child].Kind == impl.KindDir {
			count += directoriesBeneath(m, x.Child)
		}
	}
	return count
}

// readByHand reads words a second time; false if they have no such entries, or word 0 is another one.
func readByHand(words []int) (impl.Image, bool) {
	m, ok := bareImage(), words[0] == 7
	for i := range m.Inodes {
		at := 48 + 12*i
		m.Inodes[i] = impl.Inode{Kind: words[at], Size: words[at+1], Links: words[at+2]}
		copy(m.Inodes[i].Map[:], words[at+3:at+11])
	}
	for k := range m.Dirents {
		at := 240 + 3*k
		name := nameOf(words[at+1])
		m.Dirents[k] = impl.Dirent{Dir: words[at], Name: name, Child: words[at+2] - 1}
		ok = ok && (name != "" || words[at+1] == 0)
	}
	return m, ok && keepsTheRules(m)
}

func rollOrder(d *dice, list []int) []int {
	list = slices.Clone(list)
	for i := range list {
		j := d.roll(i + 1)
		list[i], list[j] = list[j], list[i]
	}
	return list
}

func everyAddress() []int {
	var list []int
	for addr := range impl.Pages {
		list = append(list, pageEntry(addr))
	}
	for addr := range impl.BlkSize {
		list = append(list, sectorEntry(addr))
	}
	return list
}

// rollName has more names than a directory has entries.
func rollName(d *dice) string {
	return strings.Repeat(nameOf(1+d.roll(26)), 1+5*d.roll(2))
}

// rollEntry is one more entry that leads to an inode, where there is room.
func rollEntry(d *dice, m *impl.Image, dirs []int, child int) {
	free := func(x impl.Dirent) bool { return x == freeEntry() }
	k := slices.IndexFunc(m.Dirents, free)
	if other := d.roll(len(m.Dirents)); free(m.Dirents[other]) {
		k = other
	}
	entry := impl.Dirent{Dir: dirs[d.roll(len(dirs))], Name: rollName(d), Child: child}
	alike := func(x impl.Dirent) bool { return x.Dir == entry.Dir && x.Name == entry.Name }
	for slices.ContainsFunc(m.Dirents, alike) {
		entry.Name = rollName(d)
	}
	m.Dirents[k] = entry
}

// rollImage is a right image: any directories, files, links and pages.
func rollImage(d *dice) impl.Image {
	m, dirs, files := bareImage(), []int{0}, []int(nil)
	addresses := rollOrder(d, everyAddress())
	inodes := rollOrder(d, []int{1, 2, 3, 4, 5, 6, 7, 8, 9, 10, 11, 12, 13, 14, 15})
	for _, i := range inodes[:d.roll(len(inodes)+1)] {
		rollEntry(d, &m, dirs, i)
		if d.roll(3) == 0 {
			m.Inodes[i] = directory()
			dirs = append(dirs, i)
			continue
		}
		m.Inodes[i] = fileOf(1)
		m.Inodes[i].Size = d.roll(9)
		for page := range m.Inodes[i].Size {
			if d.roll(4) > 0 && len(addresses) > 0 {
				m.Inodes[i].Map[page], addresses = addresses[0], addresses[1:]
			}
		}
		files = append(files, i)
	}
	for range d.roll(10) {
		if len(files) > 0 {
			i := files[d.roll(len(files))]
			rollEntry(d, &m, dirs, i)
			m.Inodes[i].Links++
		}
	}
	return m
}

// rollChange changes one thing of an image, to what may be right or wrong.
func rollChange(d *dice, m *impl.Image) {
	x, y := &m.Inodes[d.roll(16)], &m.Dirents[d.roll(24)]
	otherInode, other := m.Inodes[d.roll(16)], &m.Dirents[d.roll(24)]
	switch d.roll(14) {
	case 0:
		x.Kind = d.roll(5) - 1
	case 1:
		x.Size = d.roll(11) - 1
	case 2:
		x.Links += d.roll(3) - 1
	case 3:
		x.Links = d.roll(27) - 1
	case 4, 5:
		x.Map[d.roll(8)] = d.roll(132) - 2
	case 6:
		*x = otherInode
	case 7:
		y.Dir = d.roll(18) - 1
	case 8:
		y.Name = []string{"", "a", "b", "zzzzzz", "A", "sevenaa"}[d.roll(6)]
	case 9:
		y.Child = d.roll(19) - 2
	case 10:
		y.Name = other.Name
	case 11:
		y.Dir, other.Dir = other.Dir, y.Dir
	case 12:
		*y, *other = *other, *y
	case 13:
		*y = freeEntry()
	}
}

func TestP6RolledImages(t *testing.T) {
	d := &dice{state: 60}
	for n := range 2000 {
		m := rollImage(d)
		if !keepsTheRules(m) || !impl.ImageOK(m) {
			t.Fatalf("image %d: ImageOK is false: %v", n, m)
		}
		wantImage(t, fmt.Sprint("image ", n), memoryOf(m), m)
	}
}

func TestP6RolledChanges(t *testing.T) {
	d := &dice{state: 61}
	count := map[bool]int{}
	for n := range 20000 {
		m := rollImage(d)
		for range 1 + d.roll(3) {
			rollChange(d, &m)
		}
		want := keepsTheRules(m)
		if got := impl.ImageOK(m); got != want {
			t.Fatalf("image %d: ImageOK is %v: %v", n, got, m)
		}
		count[want]++
	}
	if count[true] < 2000 || count[false] < 2000 {
		t.Errorf("the images were right or wrong %v times", count)
	}
}

func TestP6RolledWords(t *testing.T) {
	d := &dice{state: 62}
	count := map[bool]int{}
	for n := range 20000 {
		p := memoryOf(rollImage(d))
		for range 1 + d.roll(2) {
			p.Words[d.roll(impl.PmSize)] = d.roll(30)
		}
		want, ok := readByHand(p.Words)
		where := fmt.Sprint("memory ", n)
		if ok {
			wantImage(t, where, p, want)
		} else {
			wantCode(t, where, ask("ReadImage", impl.ReadImage, p), impl.ErrForm)
		}
		count[ok]++
	}
	if count[true] < 2000 || count[false] < 2000 {
		t.Errorf("the words were right or wrong %v times", count)
	}
}
