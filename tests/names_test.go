package tests

import (
	"fmt"
	"slices"
	"strings"
	"testing"

	"loop.example/g00410/impl"
)

func wantUpdateList(t *testing.T, where string, m impl.Image, c nameCall, want ...impl.Update) {
	t.Helper()
	if got, code := c.updates(m); code != impl.OK || !slices.Equal(got, want) {
		t.Errorf("%s: %v has the updates %v, code %d, not %v", where, c, got, code, want)
	}
}

func TestP8UpdatesOfMake(t *testing.T) {
	cases := []struct {
		name  string
		image impl.Image
		call  nameCall
		want  []impl.Update
	}{
		{"the first file", bareImage(), makeCall("/a", 1), []impl.Update{{At: 60, Value: 1}, {At: 62, Value: 1}, {At: 240, Value: 0}, {At: 241, Value: 1}, {At: 242, Value: 2}}},
		{"the first directory", bareImage(), makeCall("/zzzzzz", 2), []impl.Update{{At: 60, Value: 2}, {At: 62, Value: 1}, {At: 240, Value: 0}, {At: 241, Value: firstSeven - 1}, {At: 242, Value: 2}}},
		{"in gaps", smallImage(), makeCall("/ba", 1), []impl.Update{{At: 120, Value: 1}, {At: 122, Value: 1}, {At: 246, Value: 0}, {At: 247, Value: 55}, {At: 248, Value: 7}}},
		{"in gaps, beneath", smallImage(), makeCall("/d/d/ba", 2), []impl.Update{{At: 120, Value: 2}, {At: 122, Value: 1}, {At: 246, Value: 3}, {At: 247, Value: 55}, {At: 248, Value: 7}}},
		{"in an empty directory", smallImage(), makeCall("/d/d/aaaaaa/b", 1), []impl.Update{{At: 120, Value: 1}, {At: 122, Value: 1}, {At: 246, Value: 5}, {At: 247, Value: 2}, {At: 248, Value: 7}}},
		{"the last ones", crowded(1, 1), makeCall("/b", 2), []impl.Update{{At: 216, Value: 2}, {At: 218, Value: 1}, {At: 306, Value: 0}, {At: 307, Value: 2}, {At: 308, Value: 15}}},
	}
	for _, c := range cases {
		wantUpdateList(t, c.name, c.image, c.call, c.want...)
	}
}

func TestP8UpdatesOfRemove(t *testing.T) {
	m, free, none := smallImage(), make([]int, 3), make([]int, 11)
	wantUpdateList(t, "a file of one name", m, removeCall("/zzzzzz"), slices.Concat(updatesFrom(309, free...), updatesFrom(228, none...))...)
	wantUpdateList(t, "an empty file", m, removeCall("/d/d/e"), slices.Concat(updatesFrom(255, free...), updatesFrom(96, none...))...)
	wantUpdateList(t, "an empty directory", m, removeCall("/d/d/aaaaaa"), slices.Concat(updatesFrom(261, free...), updatesFrom(108, none...))...)
	wantUpdateList(t, "one of two names", m, removeCall("/f"), slices.Concat(updatesFrom(240, free...), updatesFrom(62, 1))...)
	wantUpdateList(t, "the other one", m, removeCall("/d/g"), slices.Concat(updatesFrom(249, free...), updatesFrom(62, 1))...)
	most := rightImages()[len(rightImages())-1].image
	wantUpdateList(t, "one of all names", most, removeCall("/x"), slices.Concat(updatesFrom(309, free...), updatesFrom(134, 23))...)
	wantUpdateList(t, "the first of all names", most, removeCall("/a"), slices.Concat(updatesFrom(240, free...), updatesFrom(134, 23))...)
}

func TestP8UpdatesOfLink(t *testing.T) {
	m := smallImage()
	wantUpdateList(t, "a second name", m, linkCall("/zzzzzz", "/ba"), slices.Concat(updatesFrom(246, 0, 55, 16), updatesFrom(230, 2))...)
	for _, path := range []string{"/f", "/d/g"} {
		wantUpdateList(t, "a third name", m, linkCall(path, "/d/d/ba"), slices.Concat(updatesFrom(246, 3, 55, 2), updatesFrom(62, 3))...)
	}
	wantUpdateList(t, "in its directory", m, linkCall("/d/d/e", "/d/d/b"), slices.Concat(updatesFrom(246, 3, 2, 5), updatesFrom(98, 2))...)
	wantUpdateList(t, "no inode is free", crowded(0, 1), linkCall("/zzzzzz", "/b"), slices.Concat(updatesFrom(306, 0, 2, 16), updatesFrom(230, 2))...)
}

func TestP8UpdatesOfRename(t *testing.T) {
	m := smallImage()
	wantUpdateList(t, "a file in its directory", m, renameCall("/f", "/ba"), updatesFrom(240, 0, 55, 2)...)
	wantUpdateList(t, "a file to another one", m, renameCall("/f", "/d/d/aaaaaa/ba"), updatesFrom(240, 5, 55, 2)...)
	wantUpdateList(t, "a file to the root", m, renameCall("/d/d/e", "/e"), updatesFrom(255, 0, 5, 5)...)
	wantUpdateList(t, "a file's other name", m, renameCall("/d/g", "/d/f"), updatesFrom(249, 2, 6, 2)...)
	wantUpdateList(t, "a directory in its directory", m, renameCall("/d", "/ba"), updatesFrom(243, 0, 55, 3)...)
	wantUpdateList(t, "a directory to the root", m, renameCall("/d/d", "/ba"), updatesFrom(252, 0, 55, 4)...)
	wantUpdateList(t, "an empty one to where it was above", m, renameCall("/d/d/aaaaaa", "/d/aaaaaa"), updatesFrom(261, 2, toldAs("aaaaaa"), 6)...)
	wantUpdateList(t, "none is free", crowded(0, 0), renameCall("/zzzzzz", "/d/ba"), updatesFrom(309, 2, 55, 16)...)
	wantUpdateList(t, "none is free, and it is no file", treeImage(), renameCall("/b/c/e", "/ab/e"), updatesFrom(240+3*3, 11, 5, 16)...)
}

func TestP8MadeIsFound(t *testing.T) {
	m := wantRun(t, "one by one", bareImage(),
		makeCall("/a", 1).has(impl.OK),
		makeCall("/a", 1).has(impl.ErrTwice),
		makeCall("/a", 2).has(impl.ErrTwice),
		makeCall("/a/a", 2).has(impl.ErrNoDir),
		makeCall("/b/a", 1).has(impl.ErrNone),
		makeCall("/b", 2).has(impl.OK),
		makeCall("/b/a", 2).has(impl.OK),
		makeCall("/b/b", 1).has(impl.OK),
		makeCall("/b/a/b", 2).has(impl.OK),
		makeCall("/b/a/b/c", 2).has(impl.OK),
		makeCall("/b/a/b/c/d", 2).has(impl.OK),
		makeCall("/b/a/b/c/d/e", 2).has(impl.OK),
		makeCall("/b/a/b/c/d/f", 1).has(impl.OK),
	)
	wantFound(t, "at the end", m, map[string]int{"/a": 1, "/b": 2, "/b/a": 3, "/b/b": 4, "/b/a/b": 5, "/b/a/b/c": 6, "/b/a/b/c/d": 7, "/b/a/b/c/d/e": 8, "/b/a/b/c/d/f": 9})
	for i, x := range m.Inodes {
		want := impl.Inode{}
		if i < 10 {
			want = directory()
		}
		if i == 1 || i == 4 || i == 9 {
			want = fileOf(1)
		}
		if x != want {
			t.Errorf("inode %d is %v, not %v", i, x, want)
		}
	}
	wantCallCode(t, "as deep as a path is", m, makeCall("/b/a/b/c/d/e/f", 1), impl.ErrName)
}

func TestP8RemovedIsNotFound(t *testing.T) {
	m := wantRun(t, "one by one", smallImage(),
		removeCall("/d").has(impl.ErrNotEmpty),
		removeCall("/d/d").has(impl.ErrNotEmpty),
		removeCall("/d/d/e").has(impl.OK),
		removeCall("/d/d/e").has(impl.ErrNone),
		removeCall("/d/d").has(impl.ErrNotEmpty),
		removeCall("/d/d/aaaaaa").has(impl.OK),
		removeCall("/d/d").has(impl.OK),
		removeCall("/d").has(impl.ErrNotEmpty),
		removeCall("/zzzzzz").has(impl.OK),
		removeCall("/d/g").has(impl.OK),
		removeCall("/d").has(impl.OK),
		removeCall("/d/g").has(impl.ErrNone),
		removeCall("/f/x").has(impl.ErrNoDir),
		removeCall("/f").has(impl.OK),
		removeCall("/f").has(impl.ErrNone),
		removeCall("/").has(impl.ErrRoot),
	)
	if !sameImage(m, bareImage()) {
		t.Errorf("behind all there is more than the root: %v", m)
	}
}

// The file stays as it is until its last name goes; then its pages are free.
func TestP8RemovedNameByName(t *testing.T) {
	file := fileOf(1, pageEntry(0), 0, sectorEntry(0))
	m := wantRun(t, "one of two", smallImage(), removeCall("/f").has(impl.OK))
	if m.Inodes[1] != file {
		t.Errorf("the file is %v", m.Inodes[1])
	}
	wantLookup(t, "the other one", m, "/d/g", 1, impl.OK)
	wantFree(t, "its page is its own", m, impl.FreePage, 3)
	m = wantRun(t, "the last one", m, removeCall("/d/g").has(impl.OK))
	wantFree(t, "its page is free", m, impl.FreePage, 0)
	wantFree(t, "its sector is free", m, impl.FreeSector, 0)
	wantFree(t, "its inode is free", m, impl.FreeInode, 1)

	m = rightImages()[len(rightImages())-1].image
	for n := range lastDirent + 1 {
		// In an order that is neither that of names nor that of entries.
		name := nameOf((n*7)%24 + 1)
		if m.Inodes[7] != fileOf(24-n) {
			t.Errorf("behind %d names the file is %v", n, m.Inodes[7])
		}
		m = wantRun(t, "all names", m, removeCall("/"+name).has(impl.OK), removeCall("/"+name).has(impl.ErrNone))
	}
	if !sameImage(m, bareImage()) {
		t.Errorf("behind all names there is more than the root: %v", m)
	}
}

func TestP8OtherNamesLeadToTheSameInode(t *testing.T) {
	m := wantRun(t, "links", smallImage(),
		linkCall("/zzzzzz", "/d/z").has(impl.OK),
		linkCall("/d/z", "/d/d/aaaaaa/z").has(impl.OK),
		linkCall("/zzzzzz", "/d/z").has(impl.ErrTwice),
		linkCall("/zzzzzz", "/zzzzzz").has(impl.ErrTwice),
		linkCall("/zzzzzz", "/d").has(impl.ErrTwice),
		linkCall("/zzzzzz", "/zzzzzz/x").has(impl.ErrNoDir),
		linkCall("/zzzzzz", "/nobody/x").has(impl.ErrNone),
		linkCall("/zzzzzz/x", "/x").has(impl.ErrNoDir),
		linkCall("/d", "/x").has(impl.ErrDir),
		linkCall("/d/d/aaaaaa", "/x").has(impl.ErrDir),
		linkCall("/", "/x").has(impl.ErrDir),
		linkCall("/zzzzzz", "/").has(impl.ErrRoot),
		removeCall("/zzzzzz").has(impl.OK),
		linkCall("/d/z", "/zzzzzz").has(impl.OK),
		renameCall("/d/z", "/d/d/z").has(impl.OK),
	)
	want := smallImage().Inodes[15]
	want.Links = 3
	if m.Inodes[15] != want {
		t.Errorf("the file is %v, not %v", m.Inodes[15], want)
	}
	for _, path := range []string{"/zzzzzz", "/d/d/z", "/d/d/aaaaaa/z"} {
		wantLookup(t, "three names", m, path, 15, impl.OK)
	}
	m = wantRun(t, "as many names as there are entries", bareImage(), makeCall("/a", 1).has(impl.OK))
	for n := 2; n <= lastDirent+1; n++ {
		m = wantRun(t, "one more name", m, linkCall("/"+nameOf(n-1), "/"+nameOf(n)).has(impl.OK))
		if m.Inodes[1] != fileOf(n) {
			t.Errorf("behind %d names the file is %v", n, m.Inodes[1])
		}
	}
	wantRun(t, "all entries are taken", m, linkCall("/a", "/z").has(impl.ErrFull), makeCall("/z", 1).has(impl.ErrFull), renameCall("/a", "/z").has(impl.OK))
}

func TestP8RenamedIsFoundBeneathItsNewNameAlone(t *testing.T) {
	m := wantRun(t, "renamed", smallImage(),
		renameCall("/f", "/f").has(impl.ErrTwice),
		renameCall("/d", "/d").has(impl.ErrTwice),
		renameCall("/d/d", "/d/d").has(impl.ErrTwice),
		renameCall("/f", "/d/g").has(impl.ErrTwice),
		renameCall("/d", "/d/x").has(impl.ErrLoop),
		renameCall("/d", "/d/d/x").has(impl.ErrLoop),
		renameCall("/d", "/d/d/aaaaaa/x").has(impl.ErrLoop),
		renameCall("/d/d", "/d/d/aaaaaa/x").has(impl.ErrLoop),
		renameCall("/d/d/aaaaaa", "/d/d/aaaaaa/x").has(impl.ErrLoop),
		renameCall("/f", "/f/x").has(impl.ErrNoDir),
		renameCall("/", "/x").has(impl.ErrRoot),
		renameCall("/", "/").has(impl.ErrRoot),
		renameCall("/f", "/").has(impl.ErrRoot),
		renameCall("/d/d", "/d/dd").has(impl.OK),
		renameCall("/d/d", "/d/x").has(impl.ErrNone),
		renameCall("/d/dd", "/x").has(impl.OK),
		renameCall("/d", "/x/d").has(impl.OK),
		renameCall("/x", "/x/d/x").has(impl.ErrLoop),
		renameCall("/f", "/x/d/g").has(impl.ErrTwice),
		renameCall("/f", "/x/d/f").has(impl.OK),
		renameCall("/x/d/g", "/f").has(impl.OK),
		renameCall("/x", "/d").has(impl.OK),
	)
	wantFound(t, "at the end", m, map[string]int{"/d": 3, "/d/aaaaaa": 5, "/d/e": 4, "/d/d": 2, "/d/d/f": 1, "/f": 1, "/zzzzzz": 15})
	if !slices.Equal(m.Inodes, smallImage().Inodes) {
		t.Errorf("the inodes are others: %v", m.Inodes)
	}
}

// A directory may go where what is in it has no path any more; it comes back with all of it.
func TestP8RenamedToGreaterDepth(t *testing.T) {
	m := wantRun(t, "down", smallImage(),
		makeCall("/a", 2).has(impl.OK),
		makeCall("/a/b", 2).has(impl.OK),
		makeCall("/a/b/c", 2).has(impl.OK),
		makeCall("/a/b/c/d", 2).has(impl.OK),
		makeCall("/a/b/c/d/e", 2).has(impl.OK),
		renameCall("/d", "/a/b/c/d/e/d").has(impl.OK),
	)
	wantCallCode(t, "too deep", m, removeCall("/a/b/c/d/e/d/g"), impl.ErrName)
	wantCallCode(t, "something is in it", m, removeCall("/a/b/c/d/e/d"), impl.ErrNotEmpty)
	if paths, _ := impl.PathsOf(m); !slices.Contains(paths, "/a/b/c/d/e/d/d/aaaaaa") {
		t.Errorf("the paths are %q", paths)
	}
	m = wantRun(t, "up", m, renameCall("/a/b/c/d/e/d", "/d").has(impl.OK))
	for path, i := range pathsByHand(smallImage()) {
		wantLookup(t, "back", m, path, i, impl.OK)
	}
	deep := strings.Repeat("/same", mostNames)
	m = wantRun(t, "a chain", chainImage(), renameCall(deep, "/a").has(impl.OK))
	wantLookup(t, "the rest of the chain", m, "/a/same/same/same/same/same", 11, impl.OK)
	wantRun(t, "a chain in two", m, renameCall("/same", "/a/same/a").has(impl.OK), renameCall("/a", "/a/same/a/b").has(impl.ErrLoop))
}

// The names of one directory are not those of another.
func TestP8AlikeNames(t *testing.T) {
	m := wantRun(t, "alike", bareImage(),
		makeCall("/a", 2).has(impl.OK),
		makeCall("/a/a", 2).has(impl.OK),
		makeCall("/b", 2).has(impl.OK),
		makeCall("/b/a", 1).has(impl.OK),
		renameCall("/b/a", "/a").has(impl.ErrTwice),
		renameCall("/b/a", "/a/a").has(impl.ErrTwice),
		renameCall("/b/a", "/a/a/a").has(impl.OK),
		removeCall("/b/a").has(impl.ErrNone),
		makeCall("/b/a", 1).has(impl.OK),
		renameCall("/b/b", "/b/c").has(impl.ErrNone),
		linkCall("/a/a/a", "/b/b").has(impl.OK),
		removeCall("/b").has(impl.ErrNotEmpty),
		removeCall("/a/a/a").has(impl.OK),
		removeCall("/a/a").has(impl.OK),
		removeCall("/a").has(impl.OK),
	)
	wantFound(t, "at the end", m, map[string]int{"/b": 3, "/b/a": 5, "/b/b": 4})
}

func TestP8UntilThereIsNoRoom(t *testing.T) {
	wantRun(t, "one of each", crowded(1, 1),
		makeCall("/d/d/new", 2).has(impl.OK),
		makeCall("/newer", 1).has(impl.ErrFull),
		linkCall("/f", "/newer").has(impl.ErrFull),
		renameCall("/f", "/newer").has(impl.OK),
		removeCall("/d/d/new").has(impl.OK),
		linkCall("/newer", "/newest").has(impl.OK),
		makeCall("/d/new", 1).has(impl.ErrFull),
	)
	wantRun(t, "no inode", crowded(0, 2),
		makeCall("/new", 1).has(impl.ErrFull),
		makeCall("/new", 2).has(impl.ErrFull),
		linkCall("/f", "/new").has(impl.OK),
		removeCall("/f").has(impl.OK),
		makeCall("/f", 1).has(impl.ErrFull),
		removeCall("/zzzzzz").has(impl.OK),
		makeCall("/f", 2).has(impl.OK),
	)
	wantRun(t, "no entry", crowded(2, 0),
		makeCall("/new", 1).has(impl.ErrFull),
		linkCall("/f", "/new").has(impl.ErrFull),
		removeCall("/f").has(impl.OK),
		makeCall("/new", 1).has(impl.OK),
		makeCall("/newer", 1).has(impl.ErrFull),
	)
	m := bareImage()
	for n := 1; n <= lastInode; n++ {
		m = wantRun(t, "all inodes", m, makeCall("/"+nameOf(n), 1+n%2).has(impl.OK))
	}
	wantRun(t, "all inodes", m, makeCall("/z", 1).has(impl.ErrFull), makeCall("/b", 1).has(impl.ErrTwice), makeCall("/b/b", 1).has(impl.ErrNoDir))
}

// The journal of a plan leaves the image as it was or as it is behind the call, wherever it crashes.
func TestP8PlansByTheJournal(t *testing.T) {
	d := &dice{state: 80}
	before := devicesOf(smallImage())
	calls := []nameCall{makeCall("/d/d/new", 2), removeCall("/zzzzzz"), removeCall("/f"), removeCall("/d/d/aaaaaa"), linkCall("/f", "/d/d/new"), renameCall("/d/d", "/new")}
	for _, c := range calls {
		after, code := wantPlanned(t, "without a crash", smallImage(), c)
		list, _ := c.updates(smallImage())
		if code != impl.OK || len(list) > impl.MaxUpdates {
			t.Fatalf("%v has the code %d, or more updates than a journal has: %v", c, code, list)
		}
		plan := journalPlan(t, list)
		for steps := range len(plan) + 1 {
			cut := do(t, before, plan[:steps]...)
			mayAll, mayNone := isThere(plan, steps)
			for _, keeps := range crashKeeps(d) {
				where := fmt.Sprintf("%v, %d steps, keeps %v", c, steps, keeps)
				replayed := replay(t, crash(t, cut.Pm, keeps...))
				wantAllOrNone(t, where, before.Pm, replayed, list, mayAll, mayNone)
				if m, code := impl.ReadImage(replayed); code != impl.OK || !sameImage(m, after) && !sameImage(m, smallImage()) {
					t.Fatalf("%s: the image is another one, code %d", where, code)
				}
			}
		}
	}
}

func TestP8AppliedWords(t *testing.T) {
	for _, m := range sureMemories() {
		for _, u := range updatesToTry() {
			got, code := impl.ApplyUpdates(m.pm, u.list)
			if code != impl.OK || !samePm(got, applied(m.pm, u.list)) {
				t.Errorf("%s, %s: ApplyUpdates has the code %d, or other words", m.name, u.name, code)
			}
		}
	}
	before := numberedMemory()
	for at := impl.InodeAt; at < impl.PmSize; at++ {
		for _, v := range []int{0, 5, impl.MaxWord - 1} {
			got, code := impl.ApplyUpdates(before, []impl.Update{{At: at, Value: v}})
			want := numberedMemory()
			want.Words[at] = v
			if code != impl.OK || !samePm(got, want) {
				t.Errorf("ApplyUpdates of %d at %d has the code %d, or other words", v, at, code)
			}
		}
	}
	twice, code := impl.ApplyUpdates(before, []impl.Update{{At: 70, Value: 1}, {At: 71, Value: 2}, {At: 70, Value: 3}})
	if code != impl.OK || twice.Words[70] != 3 || twice.Words[71] != 2 || twice.Words[72] != 1072 || len(twice.Pending) != 0 {
		t.Errorf("one place twice: code %d, %v", code, twice.Words[70:73])
	}
	none, code := impl.ApplyUpdates(before, nil)
	if code != impl.OK || !samePm(none, before) {
		t.Errorf("no updates: code %d, or other words", code)
	}
}

func TestP8RolledRuns(t *testing.T) {
	d := &dice{state: 81}
	count := map[int]int{}
	for n := range 30 {
		m := bareImage()
		for step := range 250 {
			after, code := wantPlanned(t, fmt.Sprint("run ", n, ", step ", step), m, rollCall(d, m))
			m = after
			count[code]++
		}
	}
	for _, code := range []int{impl.OK, impl.ErrRange, impl.ErrNone, impl.ErrFull, impl.ErrTwice, impl.ErrDir, impl.ErrNoDir, impl.ErrNotEmpty, impl.ErrLoop, impl.ErrRoot} {
		if count[code] < 50 {
			t.Errorf("the code %d came only %d times: %v", code, count[code], count)
		}
	}
}

func TestP8RolledImages(t *testing.T) {
	d := &dice{state: 82}
	count := map[string]int{}
	for n := range 400 {
		for _, m := range []impl.Image{rollImage(d), rollDeepImage(d)} {
			for range 4 {
				c := rollCall(d, m)
				if _, code := wantPlanned(t, fmt.Sprint("image ", n), m, c); code == impl.OK {
					count[c.name]++
				}
			}
		}
	}
	for _, name := range []string{"PlanMake", "PlanRemove", "PlanLink", "PlanRename"} {
		if count[name] < 40 {
			t.Errorf("%s was done only %d times: %v", name, count[name], count)
		}
	}
}
