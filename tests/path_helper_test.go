package tests

import (
	"cmp"
	"fmt"
	"maps"
	"slices"
	"strings"
	"testing"

	"loop.example/g00410/impl"
)

const mostNames = 6

// leading is a path and the inode that it leads to.
type leading struct {
	path  string
	inode int
}

// treePaths are all paths of treeImage, those of more than six names too, as PathsOf tells them.
func treePaths() []leading {
	return []leading{
		{"/a", 9},
		{"/ab", 11},
		{"/ab/b", 12},
		{"/ab/b/aaaaaa", 14},
		{"/ab/b/zzzzzz", 14},
		{"/ab/c", 9},
		{"/b", 8},
		{"/b/c", 7},
		{"/b/c/a", 10},
		{"/b/c/d", 6},
		{"/b/c/d/e", 5},
		{"/b/c/d/e/f", 4},
		{"/b/c/d/e/f/a", 13},
		{"/b/c/d/e/f/g", 3},
		{"/b/c/d/e/f/g/a", 10},
		{"/b/c/d/e/f/g/h", 2},
		{"/b/c/d/e/f/g/h/i", 1},
		{"/b/c/d/e/f/g/h/i/a", 10},
		{"/b/c/d/e/f/g/h/i/j", 9},
		{"/b/c/d/e/z", 14},
		{"/b/c/e", 15},
		{"/b/c/e/a", 9},
		{"/ba", 10},
		{"/c", 14},
	}
}

// treeImage has directories eight deep (8, 7, .. to 1), others aside (11, 12 and 15), and files of one name and of four. No inode and no entry is free; the entries fall as their paths rise.
func treeImage() impl.Image {
	m := bareImage()
	for _, i := range []int{1, 2, 3, 4, 5, 6, 7, 8, 11, 12, 15} {
		m.Inodes[i] = directory()
	}
	m.Inodes[9] = fileOf(4, pageEntry(3))
	m.Inodes[10] = fileOf(4, sectorEntry(3), 0)
	m.Inodes[13] = fileOf(1)
	m.Inodes[14] = fileOf(4)
	inodes := map[string]int{"": 0}
	for n, x := range treePaths() {
		inodes[x.path] = x.inode
		above, name := aboveAndName(x.path)
		m.Dirents[lastDirent-n] = impl.Dirent{Dir: inodes[above], Name: name, Child: x.inode}
	}
	return m
}

// aboveAndName cuts a path at its last slash.
func aboveAndName(path string) (string, string) {
	at := strings.LastIndex(path, "/")
	return path[:at], path[at+1:]
}

// pathByHand goes up from a directory to the root, whose own path is told as the empty text.
func pathByHand(m impl.Image, dir int) string {
	if dir == 0 {
		return ""
	}
	k := slices.IndexFunc(m.Dirents, func(x impl.Dirent) bool { return x.Child == dir })
	return pathByHand(m, m.Dirents[k].Dir) + "/" + m.Dirents[k].Name
}

// pathsByHand are all paths of a right image with their inodes, told from each entry upwards.
func pathsByHand(m impl.Image) map[string]int {
	paths := map[string]int{}
	for _, x := range m.Dirents {
		if x != freeEntry() {
			paths[pathByHand(m, x.Dir)+"/"+x.Name] = x.Child
		}
	}
	return paths
}

// lookupByHand asks all paths of an image for a path, and, where there is none, for the longest one that leads there.
func lookupByHand(m impl.Image, path string) (int, int) {
	paths := pathsByHand(m)
	if i, ok := paths[path]; ok || path == "/" {
		return i, impl.OK
	}
	for path != "" {
		path, _ = aboveAndName(path)
		if i, ok := paths[path]; ok && m.Inodes[i].Kind == impl.KindFile {
			return 0, impl.ErrNoDir
		} else if ok {
			break
		}
	}
	return 0, impl.ErrNone
}

func parentByHand(m impl.Image, path string) (int, string, int) {
	if path == "/" {
		return 0, "", impl.ErrRoot
	}
	above, name := aboveAndName(path)
	dir, code := lookupByHand(m, cmp.Or(above, "/"))
	if code == impl.OK && m.Inodes[dir].Kind != impl.KindDir {
		code = impl.ErrNoDir
	}
	if code != impl.OK {
		return 0, "", code
	}
	return dir, name, impl.OK
}

// rollDeepImage is a right image whose directories stand in one of the last two that were made.
func rollDeepImage(d *dice) impl.Image {
	m, dirs := bareImage(), []int{0}
	for _, i := range rollOrder(d, []int{1, 2, 3, 4, 5, 6, 7, 8, 9, 10, 11, 12, 13, 14, 15}) {
		rollEntry(d, &m, dirs[max(0, len(dirs)-2):], i)
		if d.roll(4) == 0 {
			m.Inodes[i] = fileOf(1)
			continue
		}
		m.Inodes[i] = directory()
		dirs = append(dirs, i)
	}
	return m
}

// rollPath is a path that is there, or one with a name more, less or otherwise, no longer than a path may be.
func rollPath(d *dice, m impl.Image) string {
	paths := append(slices.Sorted(maps.Keys(pathsByHand(m))), "")
	path := paths[d.roll(len(paths))]
	for range d.roll(3) {
		if d.roll(2) == 0 && path != "" {
			path, _ = aboveAndName(path)
		} else {
			path += "/" + rollName(d)
		}
	}
	for strings.Count(path, "/") > mostNames {
		path, _ = aboveAndName(path)
	}
	return cmp.Or(path, "/")
}

// depthsOf are paths of that many names, the names being as long as they may be or of one letter.
func depthsOf(names int) []string {
	return []string{strings.Repeat("/zzzzzz", names), strings.Repeat("/a", names)}
}

// noPaths are texts that are no longer than a text may be.
func noPaths() []string {
	list := []string{
		"", "a", "a/", "a/b", "//", "///", "/a/", "/a//", "//a", "/a//b", "a//b", "/a/b/", "/a/b/c/d/e/f/", "//a/b/c/d/e/f",
		"/a/b/c/d/e/f/g", "/a/b/c/d/e//f", "a/b/c/d/e/f", " /a", "/a ", "/ a", "/a /b", "\\", "\\a", "/\\", "/a\\b", "/.", "/..", "/a/.", "/a/..",
		"\x00", "/\x00", "/a\x00", "\n", "/\n", "/a\n", "/a\n/b", "∕", "／a", "/∕", "~", "C:/a",
	}
	for names := mostNames + 1; names < 10; names++ {
		list = append(list, depthsOf(names)...)
	}
	for _, name := range noShortNames() {
		// One with a slash is two names; one of many bytes makes a text that is too long.
		if !strings.Contains(name, "/") && len(name) <= impl.MaxName {
			list = append(list, "/"+name+"/a", "/a/"+name+"/b", "/a/"+name, "/a/b/c/d/e/"+name)
		}
	}
	for _, text := range []string{"/", "/a", "a", "/zzz", " "} {
		list = append(list, strings.Repeat(text, impl.MaxText/len(text)))
	}
	return append(list, "/"+strings.Repeat("a", impl.MaxText-1))
}

// longTexts are longer than a text may be, by one byte and by more.
func longTexts() []string {
	var list []string
	for _, text := range []string{"/", "a", "/a", " ", "é"} {
		list = append(list, strings.Repeat(text, impl.MaxText)+"/", strings.Repeat(text, impl.MaxText)[:impl.MaxText]+"a")
	}
	return append(list, "/"+strings.Repeat("a", impl.MaxText), strings.Repeat("/a", 3*impl.MaxText))
}

// pathCalls are all calls of chapter 7.
func pathCalls(m impl.Image, path string, a, b int) []asked {
	return append(imagePathCalls(m, path, a, b), ask("PathOK", impl.PathOK, path), ask("SplitPath", impl.SplitPath, path))
}

// imagePathCalls are those that are asked of an image.
func imagePathCalls(m impl.Image, path string, a, b int) []asked {
	return []asked{
		ask("Lookup", impl.Lookup, m, path),
		ask("Parent", impl.Parent, m, path),
		ask("PathsOf", impl.PathsOf, m),
		ask("Beneath", impl.Beneath, m, a, b),
	}
}

func wantSplit(t *testing.T, path string, want ...string) {
	t.Helper()
	if !impl.PathOK(path) {
		t.Errorf("PathOK(%q) is false", path)
	}
	if got, code := impl.SplitPath(path); code != impl.OK || !slices.Equal(got, want) {
		t.Errorf("SplitPath(%q) is %q, code %d, not %q", path, got, code, want)
	}
}

func wantNoPath(t *testing.T, text string, code int) {
	t.Helper()
	where := fmt.Sprintf("%.30q of %d bytes", text, len(text))
	if impl.PathOK(text) {
		t.Errorf("PathOK is true of %s", where)
	}
	wantCode(t, where, ask("SplitPath", impl.SplitPath, text), code)
}

func wantLookup(t *testing.T, where string, m impl.Image, path string, want, wantCode int) {
	t.Helper()
	if got, code := impl.Lookup(m, path); got != want || code != wantCode {
		t.Errorf("%s: Lookup of %q is %d, code %d, not %d, code %d", where, path, got, code, want, wantCode)
	}
}

func wantParent(t *testing.T, where string, m impl.Image, path string, want int, wantName string, wantCode int) {
	t.Helper()
	if got, name, code := impl.Parent(m, path); got != want || name != wantName || code != wantCode {
		t.Errorf("%s: Parent of %q is %d and %q, code %d, not %d and %q, code %d", where, path, got, name, code, want, wantName, wantCode)
	}
}

func wantPaths(t *testing.T, where string, m impl.Image, want ...string) {
	t.Helper()
	if got, code := impl.PathsOf(m); code != impl.OK || !slices.Equal(got, want) {
		t.Errorf("%s: PathsOf is %q, code %d, not %q", where, got, code, want)
	}
}

func wantBeneath(t *testing.T, where string, m impl.Image, a, b int, want bool) {
	t.Helper()
	if got, code := impl.Beneath(m, a, b); got != want || code != impl.OK {
		t.Errorf("%s: Beneath of %d and %d is %v, code %d, not %v", where, a, b, got, code, want)
	}
}
