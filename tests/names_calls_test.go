package tests

import (
	"cmp"
	"fmt"
	"slices"
	"strings"
	"testing"

	"loop.example/g00410/impl"
)

// roomyImage is an image with the code that it has of what takes an inode, and of what takes an entry.
type roomyImage struct {
	namedImage
	inode, entry int
}

func roomyImages() []roomyImage {
	return []roomyImage{
		{namedImage{"small", smallImage()}, impl.OK, impl.OK},
		{namedImage{"one of each is free", crowded(1, 1)}, impl.OK, impl.OK},
		{namedImage{"no inode is free", crowded(0, 8)}, impl.ErrFull, impl.OK},
		{namedImage{"no inode and one entry is free", crowded(0, 1)}, impl.ErrFull, impl.OK},
		{namedImage{"no entry is free", crowded(9, 0)}, impl.OK, impl.ErrFull},
		{namedImage{"one inode and no entry is free", crowded(1, 0)}, impl.OK, impl.ErrFull},
		{namedImage{"none is free", crowded(0, 0)}, impl.ErrFull, impl.ErrFull},
	}
}

func wantCallCode(t *testing.T, where string, m impl.Image, c nameCall, code int) {
	t.Helper()
	wantCode(t, fmt.Sprint(where, ": ", c), c.asked(m), code)
}

func TestP1ImagesForNames(t *testing.T) {
	for _, m := range roomyImages() {
		if !keepsTheRules(m.image) || !impl.ImageOK(m.image) {
			t.Errorf("%s: the image is not right: %v", m.name, m.image)
		}
		if keepsTheRules(wronged(m.image)) || impl.ImageOK(wronged(m.image)) {
			t.Errorf("%s: the image with a link too many is right", m.name)
		}
	}
	for code := range 20 {
		has := slices.ContainsFunc(someCalls(), func(c nameCall) bool { _, got := c.updates(smallImage()); return got == code })
		planned := []int{impl.OK, impl.ErrRange, impl.ErrNone, impl.ErrTwice, impl.ErrDir, impl.ErrNoDir, impl.ErrNotEmpty, impl.ErrName, impl.ErrLoop, impl.ErrRoot}
		if has != slices.Contains(planned, code) {
			t.Errorf("that some call has the code %d is %v", code, has)
		}
	}
}

// Each two faults at once: the kind's, the path's, and that there is no room.
func TestP1CodesOfMake(t *testing.T) {
	for _, m := range roomyImages() {
		for _, x := range newNames() {
			for _, kind := range noKinds() {
				wantCallCode(t, m.name, m.image, makeCall(x.path, kind), impl.ErrRange)
			}
			for _, kind := range []int{impl.KindFile, impl.KindDir} {
				wantCallCode(t, m.name, m.image, makeCall(x.path, kind), cmp.Or(x.code, m.inode, m.entry))
			}
		}
	}
}

// The root has something in it, as what is no path for a slash behind it has.
func TestP1CodesOfRemove(t *testing.T) {
	for _, m := range roomyImages() {
		for _, x := range oldNames() {
			code := x.code
			if x.path == "/d" || x.path == "/d/d" {
				code = impl.ErrNotEmpty
			}
			wantCallCode(t, m.name, m.image, removeCall(x.path), code)
		}
	}
	wantCallCode(t, "nothing is in it", bareImage(), removeCall("/"), impl.ErrRoot)
}

// Each two faults at once: the path's, the other path's, and that there is no entry.
func TestP1CodesOfLink(t *testing.T) {
	for _, m := range roomyImages() {
		for _, x := range oldNames() {
			if slices.Contains([]string{"/", "/d", "/d/d", "/d/d/aaaaaa"}, x.path) {
				x.code = impl.ErrDir
			}
			for _, y := range newNames() {
				wantCallCode(t, m.name, m.image, linkCall(x.path, y.path), cmp.Or(x.code, y.code, m.entry))
			}
		}
	}
}

// Each two faults at once: the path's, the other path's, and that a directory would stand in itself; there is always room.
func TestP1CodesOfRename(t *testing.T) {
	for _, m := range roomyImages() {
		for _, x := range oldNames() {
			for _, y := range newNames() {
				code := cmp.Or(x.code, y.code)
				if code == impl.OK && strings.HasPrefix(y.path, x.path+"/") {
					code = impl.ErrLoop
				}
				wantCallCode(t, m.name, m.image, renameCall(x.path, y.path), code)
			}
		}
	}
}

// That a directory would stand in itself is told behind all that is wrong about the other path, which is beneath it.
func TestP1LoopAndOtherCodes(t *testing.T) {
	for _, path := range []string{"/d", "/d/d"} {
		for _, x := range []fault{
			{"/d/d/", impl.ErrName}, {"/d/d/X", impl.ErrName}, {"/d/d//x", impl.ErrName},
			{"/d/d/e/x", impl.ErrNoDir}, {"/d/d/e/x/y", impl.ErrNoDir}, {"/d/d/nobody/x", impl.ErrNone},
			{"/d/d/e", impl.ErrTwice}, {"/d/d/aaaaaa", impl.ErrTwice}, {"/d/d", impl.ErrTwice},
			{"/d/d/x", impl.ErrLoop}, {"/d/d/aaaaaa/x", impl.ErrLoop},
		} {
			wantCallCode(t, "beneath itself", smallImage(), renameCall(path, x.path), x.code)
		}
	}
}

// That an image is not right is told ahead of all but a text that is too long.
func TestP1NamesOfWrongImages(t *testing.T) {
	for _, m := range wrongImages() {
		for _, c := range someCalls() {
			wantCallCode(t, m.name, m.image, c, impl.ErrBad)
		}
	}
	for _, m := range roomyImages() {
		for _, c := range someCalls() {
			wantCallCode(t, m.name+", a link too many", wronged(m.image), c, impl.ErrBad)
		}
		for _, kind := range noKinds() {
			wantCallCode(t, m.name+", a link too many", wronged(m.image), makeCall("/new", kind), impl.ErrBad)
		}
	}
}

func TestP1NamesOfNoPaths(t *testing.T) {
	for _, m := range roomyImages() {
		for _, text := range noPaths() {
			for _, c := range []nameCall{makeCall(text, 1), makeCall(text, 2), removeCall(text), linkCall(text, "/x"), linkCall("/f", text), linkCall(text, text), renameCall(text, "/x"), renameCall("/f", text), renameCall(text, text)} {
				wantCallCode(t, m.name, m.image, c, impl.ErrName)
			}
			wantCallCode(t, m.name, m.image, makeCall(text, 0), impl.ErrRange)
			wantCallCode(t, m.name, m.image, linkCall("/d", text), impl.ErrDir)
			wantCallCode(t, m.name, m.image, linkCall("/nobody", text), impl.ErrNone)
			wantCallCode(t, m.name, m.image, renameCall("/", text), impl.ErrRoot)
			wantCallCode(t, m.name, m.image, renameCall("/f/x", text), impl.ErrNoDir)
		}
	}
}

// That a text is too long is told ahead of all else, whichever place it has.
func TestP1LongNamesToPlan(t *testing.T) {
	images := []namedImage{{"small", smallImage()}, {"none is free", crowded(0, 0)}, {"nothing", impl.Image{}}, {"a link too many", wronged(smallImage())}}
	for _, m := range images {
		for _, long := range longTexts() {
			calls := []nameCall{removeCall(long), linkCall(long, long), renameCall(long, long)}
			for _, kind := range []int{1, 2, 0, 3, -1} {
				calls = append(calls, makeCall(long, kind))
			}
			for _, other := range []string{"/f", "/d", "/d/d/aaaaaa", "/x", "/", "/f/x", "/nobody/x", "", "//"} {
				calls = append(calls, linkCall(long, other), linkCall(other, long), renameCall(long, other), renameCall(other, long))
			}
			for _, c := range calls {
				wantCallCode(t, m.name, m.image, c, impl.ErrLong)
			}
		}
	}
}

func TestP1NamesUntouched(t *testing.T) {
	var images []namedImage
	for _, m := range roomyImages() {
		images = append(images, m.namedImage)
	}
	images = append(images, namedImage{"tree", treeImage()}, namedImage{"nothing", impl.Image{}}, namedImage{"a link too many", wronged(smallImage())})
	for _, m := range append(images, rightImages()...) {
		var calls []asked
		for _, c := range someCalls() {
			calls = append(calls, c.asked(m.image))
		}
		wantPromise1(t, m.name, calls)
	}
	var calls []asked
	for _, m := range wrongImages() {
		calls = append(calls, makeCall("/x", 1).asked(m.image), removeCall("/zzzzzz").asked(m.image), linkCall("/f", "/x").asked(m.image), renameCall("/d/d", "/x").asked(m.image))
	}
	for _, text := range append(noPaths(), longTexts()...) {
		for _, c := range []nameCall{makeCall(text, 1), removeCall(text), linkCall("/f", text), renameCall(text, "/x")} {
			calls = append(calls, c.asked(smallImage()))
		}
	}
	wantPromise1(t, "wrong images and texts", calls)
}

// busyMemories are right, and have stores that are not sure.
func busyMemories() []namedMemory {
	return slices.DeleteFunc(rightMemories(), func(m namedMemory) bool { return len(m.pm.Pending) == 0 })
}

func sureMemories() []namedMemory {
	return slices.DeleteFunc(rightMemories(), func(m namedMemory) bool { return len(m.pm.Pending) > 0 })
}

// updatesToTry are lists that may be applied: none, one at either end, many, one place twice, and as many as a list has.
func updatesToTry() []namedUpdates {
	list := append(rightJournals(), namedUpdates{"none", nil}, namedUpdates{"more than a journal has", updatesOf(mostUpdates+1, 60)})
	most := updatesOf(mostUpdates, 60)
	return append(list, namedUpdates{"as many as a list has", slices.Repeat(most, impl.MaxList/mostUpdates)})
}

func TestP1UpdatesOfBusyMemories(t *testing.T) {
	for _, m := range busyMemories() {
		for _, u := range updatesToTry() {
			wantAsItWas(t, m.name+", "+u.name, applyCall(m.pm, u.list...), impl.ErrBusy)
		}
	}
	for _, flushed := range []bool{false, true} {
		m := numberedMemory(impl.Store{At: 3, Value: 1003, Flushed: flushed})
		wantAsItWas(t, "a store of what is there", applyCall(m, updatesOf(2, 60)...), impl.ErrBusy)
	}
}

func TestP1UpdatesOfWrongMemories(t *testing.T) {
	for _, m := range wrongMemories() {
		for _, u := range append(updatesToTry(), namedUpdates{"wrong", []impl.Update{{At: 47}}}) {
			wantCode(t, m.name+", "+u.name, applyCall(m.pm, u.list...), impl.ErrBad)
		}
	}
}

// One wrong update is enough, wherever it stands, also of a memory that is busy.
func TestP1WrongUpdatesToApply(t *testing.T) {
	for _, m := range rightMemories() {
		for _, u := range wrongUpdates() {
			wantCode(t, m.name, applyCall(m.pm, u), impl.ErrBad)
			for _, n := range []int{2, 17, impl.MaxList} {
				for _, at := range []int{0, n / 2, n - 1} {
					list := slices.Repeat(updatesOf(1, 60), n)
					list[at] = u
					wantCode(t, fmt.Sprint(m.name, ", ", u, " at ", at), applyCall(m.pm, list...), impl.ErrBad)
				}
			}
		}
	}
}

func TestP1LongListsToApply(t *testing.T) {
	for _, m := range append(rightMemories(), wrongMemories()...) {
		for _, u := range []impl.Update{{At: 60, Value: 1}, {}, {At: 60, Value: -1}, {At: impl.PmSize}} {
			for _, n := range []int{impl.MaxList + 1, 3 * impl.MaxList} {
				wantCode(t, m.name, applyCall(m.pm, slices.Repeat([]impl.Update{u}, n)...), impl.ErrLong)
			}
		}
	}
}

func TestP1ApplyingUntouched(t *testing.T) {
	for _, m := range append(rightMemories(), wrongMemories()...) {
		var calls []asked
		for _, u := range append(updatesToTry(), namedUpdates{"wrong", []impl.Update{{At: 60, Value: 5}, {At: 47}}}) {
			calls = append(calls, applyCall(m.pm, u.list...))
		}
		calls = append(calls, ask("ApplyUpdates", impl.ApplyUpdates, m.pm, []impl.Update{}))
		wantPromise1(t, m.name, calls)
	}
}
