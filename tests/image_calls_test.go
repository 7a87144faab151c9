package tests

import (
	"fmt"
	"testing"

	"loop.example/g00410/impl"
)

func TestP1WrongImages(t *testing.T) {
	for _, m := range wrongImages() {
		for _, dir := range []int{0, 1, -1, 16} {
			for _, tier := range []int{impl.TierPm, impl.TierBlk, impl.TierNone, -1} {
				for _, c := range imageCalls(m.image, tier, dir) {
					wantCode(t, m.name, c, impl.ErrBad)
				}
			}
		}
	}
}

func TestP1NoTiers(t *testing.T) {
	for _, m := range rightImages() {
		for _, tier := range append(noIndexes(impl.TierBlk), impl.TierNone, 3, 5, 6) {
			wantCode(t, fmt.Sprint(m.name, ", tier ", tier), ask("UsedBy", impl.UsedBy, m.image, tier), impl.ErrRange)
		}
	}
}

func TestP1NoDirectories(t *testing.T) {
	for _, m := range rightImages() {
		for _, dir := range noIndexes(lastInode) {
			wantCode(t, fmt.Sprint(m.name, ", ", dir), ask("EntriesOf", impl.EntriesOf, m.image, dir), impl.ErrRange)
		}
		for i, x := range m.image.Inodes {
			want := impl.ErrNoDir
			if x.Kind == impl.KindDir {
				want = impl.OK
			}
			wantCode(t, fmt.Sprint(m.name, ", ", i), ask("EntriesOf", impl.EntriesOf, m.image, i), want)
		}
	}
}

func inodesOfAllKinds() []namedInode {
	return append(wrongInodes(), namedInode{"free", impl.Inode{}}, namedInode{"a directory", directory()}, namedInode{"a file", fileOf(1, 5)})
}

func direntsOfAllKinds() []namedDirent {
	return append(wrongDirents(), namedDirent{"free", freeEntry()}, namedDirent{"taken", impl.Dirent{Name: "a", Child: 1}})
}

// That there is no such inode or entry is told ahead of what is wrong about it.
func TestP1UpdatesOfNone(t *testing.T) {
	for _, i := range noIndexes(lastInode) {
		for _, x := range inodesOfAllKinds() {
			wantCode(t, fmt.Sprint(x.name, " at ", i), ask("InodeUpdates", impl.InodeUpdates, i, x.inode), impl.ErrRange)
		}
	}
	for _, k := range noIndexes(lastDirent) {
		for _, x := range direntsOfAllKinds() {
			wantCode(t, fmt.Sprint(x.name, " at ", k), ask("DirentUpdates", impl.DirentUpdates, k, x.dirent), impl.ErrRange)
		}
	}
}

func TestP1UpdatesOfWrongOnes(t *testing.T) {
	for _, i := range []int{0, 1, lastInode} {
		for _, x := range wrongInodes() {
			wantCode(t, fmt.Sprint(x.name, " at ", i), ask("InodeUpdates", impl.InodeUpdates, i, x.inode), impl.ErrBad)
		}
	}
	for _, k := range []int{0, 1, lastDirent} {
		for _, x := range wrongDirents() {
			wantCode(t, fmt.Sprint(x.name, " at ", k), ask("DirentUpdates", impl.DirentUpdates, k, x.dirent), impl.ErrBad)
		}
	}
}

func TestP1ImagesUntouched(t *testing.T) {
	for _, m := range append(rightImages(), wrongImages()...) {
		calls := append(imageCalls(m.image, impl.TierPm, 0), imageCalls(m.image, impl.TierBlk, 2)...)
		calls = append(calls, imageCalls(m.image, impl.TierNone, 4)...)
		calls = append(calls, imageCalls(m.image, -1, 16)...)
		calls = append(calls, ask("ImageOK", impl.ImageOK, m.image), ask("NewDevices", impl.NewDevices))
		if canBeTold(m.image) {
			p := memoryOf(m.image)
			p.Pending = storesBetween(p, memoryOf(smallImage()))
			calls = append(calls, ask("ReadImage", impl.ReadImage, memoryOf(m.image)), ask("ReadImage", impl.ReadImage, p))
		}
		wantPromise1(t, m.name, calls)
	}
}

func TestP1ReadingUntouched(t *testing.T) {
	var calls []asked
	for _, m := range append(rightMemories(), wrongMemories()...) {
		calls = append(calls, ask("ReadImage", impl.ReadImage, m.pm))
	}
	wantPromise1(t, "memories", calls)
}

func TestP1UpdatesUntouched(t *testing.T) {
	var calls []asked
	for _, i := range []int{0, 15, 16, 23, 24, -1} {
		for _, x := range inodesOfAllKinds() {
			calls = append(calls, ask("InodeUpdates", impl.InodeUpdates, i, x.inode))
		}
		for _, x := range direntsOfAllKinds() {
			calls = append(calls, ask("DirentUpdates", impl.DirentUpdates, i, x.dirent))
		}
	}
	wantPromise1(t, "updates", calls)
}
