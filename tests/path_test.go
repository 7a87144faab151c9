package tests

import (
	"fmt"
	"maps"
	"regexp"
	"slices"
	"strings"
	"testing"

	"loop.example/g00410/impl"
)

func TestP7PathsAndTheirNames(t *testing.T) {
	if impl.MaxDepth != mostNames {
		t.Error("MaxDepth is", impl.MaxDepth)
	}
	wantSplit(t, "/")
	wantSplit(t, "/a", "a")
	wantSplit(t, "/z", "z")
	wantSplit(t, "/zzzzzz", "zzzzzz")
	wantSplit(t, "/a/bc", "a", "bc")
	wantSplit(t, "/abcdef/a/ghijkl", "abcdef", "a", "ghijkl")
	wantSplit(t, "/same/same/same", "same", "same", "same")
	wantSplit(t, "/f/e/d/c/b/a", "f", "e", "d", "c", "b", "a")
	for names := 1; names <= mostNames; names++ {
		for _, path := range depthsOf(names) {
			wantSplit(t, path, strings.Split(path, "/")[1:]...)
		}
	}
}

func TestP7TextsThatAreNoPaths(t *testing.T) {
	for _, text := range noPaths() {
		wantNoPath(t, text, impl.ErrName)
	}
	for _, text := range longTexts() {
		wantNoPath(t, text, impl.ErrLong)
	}
}

// pathForm tells what a path is a second time.
var pathForm = regexp.MustCompile(`\A(/|(/[a-z]{1,6}){1,6})\z`)

func wantFormed(t *testing.T, text string) {
	t.Helper()
	switch {
	case text == "/":
		wantSplit(t, text)
	case pathForm.MatchString(text):
		wantSplit(t, text, strings.Split(text[1:], "/")...)
	default:
		wantNoPath(t, text, impl.ErrName)
	}
}

// Any byte in the place of another one, and between any two.
func TestP7BytesOfPaths(t *testing.T) {
	for n := range 256 {
		letter := string([]byte{byte(n)})
		for _, path := range []string{"/", "/m", "/mm/m", "/m/m/m", "/mmmmmm/mmmmmm", "/m/m/m/m/m/m"} {
			for at := range len(path) {
				wantFormed(t, path[:at]+letter+path[at+1:])
				wantFormed(t, path[:at]+letter+path[at:])
			}
			wantFormed(t, path+letter)
		}
	}
}

func TestP7RolledTexts(t *testing.T) {
	d := &dice{state: 70}
	count := map[bool]int{}
	parts := []string{"/a", "/bc", "/def", "/ghij", "/zzzzzz", "k", "lm", "/", "A"}
	for range 40000 {
		text := ""
		for range 1 + d.roll(8) {
			// Most are names with a slash ahead, so that there are paths among the texts.
			text += parts[min(d.roll(len(parts)), d.roll(len(parts)))]
		}
		wantFormed(t, text)
		count[pathForm.MatchString(text)]++
	}
	if count[true] < 4000 || count[false] < 4000 {
		t.Errorf("the texts were paths or not %v times", count)
	}
}

func TestP7Lookup(t *testing.T) {
	m := treeImage()
	wantLookup(t, "the root", m, "/", 0, impl.OK)
	looked := 0
	for _, x := range treePaths() {
		if strings.Count(x.path, "/") <= mostNames {
			wantLookup(t, "tree", m, x.path, x.inode, impl.OK)
			looked++
		} else {
			wantLookup(t, "too deep", m, x.path, 0, impl.ErrName)
		}
	}
	if looked != 19 {
		t.Error("paths that were looked up:", looked)
	}
	for _, path := range []string{"/f", "/d/g"} {
		wantLookup(t, "a file of two names", smallImage(), path, 1, impl.OK)
	}
	wantLookup(t, "an empty directory", smallImage(), "/d/d/aaaaaa", 5, impl.OK)
	wantLookup(t, "a file of no pages", smallImage(), "/d/d/e", 4, impl.OK)
	wantLookup(t, "the last inode", smallImage(), "/zzzzzz", 15, impl.OK)
	wantLookup(t, "the same name all the way", chainImage(), "/same/same/same/same/same/same", 6, impl.OK)
	for _, x := range rightImages() {
		wantLookup(t, x.name, x.image, "/", 0, impl.OK)
	}
}

// What stops a path is its first name, a middle one or the last one; what stands behind it is not asked.
func TestP7LookupThatEnds(t *testing.T) {
	m := treeImage()
	cases := []struct {
		path string
		code int
	}{
		{"/x", impl.ErrNone}, {"/aa", impl.ErrNone}, {"/abc", impl.ErrNone}, {"/zzzzzz", impl.ErrNone}, {"/j", impl.ErrNone}, {"/d", impl.ErrNone},
		{"/x/c", impl.ErrNone}, {"/x/c/d", impl.ErrNone}, {"/c/c/c", impl.ErrNoDir}, {"/x/y/z/a/b/c", impl.ErrNone},
		{"/b/x", impl.ErrNone}, {"/b/b", impl.ErrNone}, {"/b/a", impl.ErrNone}, {"/ab/a", impl.ErrNone}, {"/ab/zzzzzz", impl.ErrNone},
		{"/b/x/d", impl.ErrNone}, {"/b/c/x/e", impl.ErrNone}, {"/b/c/x/e/f/g", impl.ErrNone}, {"/b/c/d/e/x/g", impl.ErrNone},
		{"/b/c/x", impl.ErrNone}, {"/b/c/d/e/f/x", impl.ErrNone}, {"/b/c/d/e/f/h", impl.ErrNone}, {"/b/c/e/x", impl.ErrNone},
		{"/a/x", impl.ErrNoDir}, {"/a/a", impl.ErrNoDir}, {"/a/b", impl.ErrNoDir}, {"/ba/c", impl.ErrNoDir}, {"/a/x/y", impl.ErrNoDir}, {"/a/b/c/d/e/f", impl.ErrNoDir},
		{"/ab/c/x", impl.ErrNoDir}, {"/b/c/a/x", impl.ErrNoDir}, {"/b/c/a/d/e/f", impl.ErrNoDir}, {"/ab/b/zzzzzz/x", impl.ErrNoDir}, {"/b/c/a/a/a", impl.ErrNoDir}, {"/b/c/d/e/z/x", impl.ErrNoDir},
	}
	for _, c := range cases {
		wantLookup(t, "tree", m, c.path, 0, c.code)
	}
	for _, path := range []string{"/a", "/a/a", "/same", "/a/b/c/d/e/f"} {
		wantLookup(t, "the root alone", bareImage(), path, 0, impl.ErrNone)
	}
}

// A name is one directory's: those of other directories are not found there.
func TestP7NamesOfOtherDirectories(t *testing.T) {
	m := bareImage()
	for i := 1; i <= 4; i++ {
		m.Inodes[i] = directory()
	}
	m.Inodes[5], m.Inodes[6] = fileOf(1), fileOf(1)
	m.Dirents[0] = impl.Dirent{Dir: 3, Name: "a", Child: 5}
	m.Dirents[1] = impl.Dirent{Dir: 2, Name: "a", Child: 4}
	m.Dirents[2] = impl.Dirent{Dir: 1, Name: "a", Child: 3}
	m.Dirents[3] = impl.Dirent{Dir: 0, Name: "b", Child: 2}
	m.Dirents[4] = impl.Dirent{Dir: 0, Name: "a", Child: 1}
	m.Dirents[5] = impl.Dirent{Dir: 4, Name: "b", Child: 6}
	for path, i := range map[string]int{"/a": 1, "/a/a": 3, "/a/a/a": 5, "/b": 2, "/b/a": 4, "/b/a/b": 6} {
		wantLookup(t, "alike names", m, path, i, impl.OK)
	}
	for _, path := range []string{"/a/b", "/b/b", "/a/a/b", "/b/a/a"} {
		wantLookup(t, "alike names", m, path, 0, impl.ErrNone)
	}
	wantPaths(t, "alike names", m, "/a", "/a/a", "/a/a/a", "/b", "/b/a", "/b/a/b")
}

func TestP7Parent(t *testing.T) {
	m := treeImage()
	cases := []struct {
		path string
		dir  int
		name string
		code int
	}{
		{"/", 0, "", impl.ErrRoot},
		{"/a", 0, "a", impl.OK}, {"/b", 0, "b", impl.OK}, {"/x", 0, "x", impl.OK}, {"/zzzzzz", 0, "zzzzzz", impl.OK},
		{"/b/c", 8, "c", impl.OK}, {"/b/x", 8, "x", impl.OK}, {"/b/b", 8, "b", impl.OK}, {"/ab/c", 11, "c", impl.OK}, {"/ab/b/zzzzzz", 12, "zzzzzz", impl.OK},
		{"/b/c/a", 7, "a", impl.OK}, {"/b/c/e/x", 15, "x", impl.OK}, {"/b/c/d/e/f", 5, "f", impl.OK}, {"/b/c/d/e/x", 5, "x", impl.OK},
		{"/b/c/d/e/f/g", 4, "g", impl.OK}, {"/b/c/d/e/f/x", 4, "x", impl.OK},
		{"/a/x", 0, "", impl.ErrNoDir}, {"/a/a", 0, "", impl.ErrNoDir}, {"/a/x/y", 0, "", impl.ErrNoDir}, {"/a/b/c/d/e/f", 0, "", impl.ErrNoDir},
		{"/ab/c/x", 0, "", impl.ErrNoDir}, {"/b/c/a/x", 0, "", impl.ErrNoDir}, {"/b/c/a/x/y", 0, "", impl.ErrNoDir}, {"/b/c/d/e/z/x", 0, "", impl.ErrNoDir},
		{"/x/y", 0, "", impl.ErrNone}, {"/x/b", 0, "", impl.ErrNone}, {"/x/y/z", 0, "", impl.ErrNone}, {"/b/x/y", 0, "", impl.ErrNone}, {"/b/c/x/y", 0, "", impl.ErrNone},
		{"/b/x/d/e/f/g", 0, "", impl.ErrNone}, {"/b/c/d/e/x/g", 0, "", impl.ErrNone}, {"/ab/b/x/zzzzzz", 0, "", impl.ErrNone},
		{"/b/c/d/e/f/g/h", 0, "", impl.ErrName}, {"/b/", 0, "", impl.ErrName}, {"b", 0, "", impl.ErrName}, {"", 0, "", impl.ErrName}, {"//", 0, "", impl.ErrName},
	}
	for _, c := range cases {
		wantParent(t, "tree", m, c.path, c.dir, c.name, c.code)
	}
	wantParent(t, "the root alone", bareImage(), "/a", 0, "a", impl.OK)
	wantParent(t, "the root alone", bareImage(), "/a/b", 0, "", impl.ErrNone)
	for _, x := range rightImages() {
		wantParent(t, x.name, x.image, "/", 0, "", impl.ErrRoot)
		wantParent(t, x.name, x.image, "/nobody", 0, "nobody", impl.OK)
	}
}

func TestP7PathsOf(t *testing.T) {
	wantPaths(t, "the root alone", bareImage())
	wantPaths(t, "small", smallImage(), "/d", "/d/d", "/d/d/aaaaaa", "/d/d/e", "/d/g", "/f", "/zzzzzz")
	var tree, chain []string
	for _, x := range treePaths() {
		tree = append(tree, x.path)
	}
	wantPaths(t, "tree, which has no free entry", treeImage(), tree...)
	other := treeImage()
	slices.Reverse(other.Dirents)
	wantPaths(t, "the tree's entries the other way round", other, tree...)
	for names := 1; names <= lastInode; names++ {
		chain = append(chain, strings.Repeat("/same", names))
	}
	wantPaths(t, "a chain", chainImage(), chain...)
	full, code := impl.PathsOf(fullImage())
	if code != impl.OK || len(full) != lastDirent+1 || !slices.IsSorted(full) {
		t.Errorf("PathsOf a full image has %d paths, code %d: %q", len(full), code, full)
	}
	for _, x := range fullImage().Dirents {
		if !slices.Contains(full, "/"+x.Name) {
			t.Errorf("PathsOf a full image has no %q", x.Name)
		}
	}
	// By letters, not by their words' numbers: a name that is the beginning of another comes ahead, and all that is in it.
	m := withFiles(make([][]int, 6)...)
	m.Inodes[6] = directory()
	for k, name := range []string{"b", "zzzzzz", "ab", "z", "aa", "a"} {
		m.Dirents[k].Name = name
	}
	m.Dirents[0].Dir, m.Dirents[1].Dir = 6, 6
	wantPaths(t, "by letters", m, "/a", "/a/b", "/a/zzzzzz", "/aa", "/ab", "/z")
}

func TestP7Beneath(t *testing.T) {
	m := treeImage()
	for _, i := range []int{0, 8, 7, 1, 11, 12, 15} {
		wantBeneath(t, "itself", m, i, i, true)
		wantBeneath(t, "in the root", m, i, 0, true)
		wantBeneath(t, "the root in it", m, 0, i, i == 0)
	}
	for _, x := range []struct{ a, b int }{{7, 8}, {1, 2}, {12, 11}, {15, 7}, {6, 8}, {1, 8}, {1, 3}, {15, 8}, {3, 6}} {
		wantBeneath(t, "within", m, x.a, x.b, true)
		wantBeneath(t, "the other way round", m, x.b, x.a, false)
	}
	for _, x := range []struct{ a, b int }{{8, 11}, {12, 8}, {1, 11}, {1, 12}, {6, 15}, {15, 1}, {15, 12}} {
		wantBeneath(t, "side by side", m, x.a, x.b, false)
		wantBeneath(t, "side by side", m, x.b, x.a, false)
	}
	for a := range lastInode + 1 {
		for b := range lastInode + 1 {
			wantBeneath(t, "a chain", chainImage(), a, b, a >= b)
		}
	}
	wantBeneath(t, "the root alone", bareImage(), 0, 0, true)
}

func TestP7BeneathOfNoDirectories(t *testing.T) {
	for _, m := range append(rightImages(), namedImage{"tree", treeImage()}) {
		for a, x := range m.image.Inodes {
			for b, y := range m.image.Inodes {
				want := impl.ErrNoDir
				if x.Kind == impl.KindDir && y.Kind == impl.KindDir {
					want = impl.OK
				}
				wantCode(t, fmt.Sprint(m.name, ", ", a, " and ", b), ask("Beneath", impl.Beneath, m.image, a, b), want)
			}
			for _, none := range noIndexes(lastInode) {
				wantCode(t, fmt.Sprint(m.name, ", ", a, " and ", none), ask("Beneath", impl.Beneath, m.image, a, none), impl.ErrRange)
				wantCode(t, fmt.Sprint(m.name, ", ", none, " and ", a), ask("Beneath", impl.Beneath, m.image, none, a), impl.ErrRange)
			}
		}
		for _, none := range noIndexes(lastInode) {
			wantCode(t, fmt.Sprint(m.name, ", twice ", none), ask("Beneath", impl.Beneath, m.image, none, none), impl.ErrRange)
		}
	}
}

// wantLeading asks of all paths of an image that they lead to where their parents tell.
func wantLeading(t *testing.T, where string, m impl.Image) {
	t.Helper()
	paths, code := impl.PathsOf(m)
	if code != impl.OK {
		t.Fatalf("%s: PathsOf has the code %d", where, code)
	}
	for _, path := range paths {
		if strings.Count(path, "/") > impl.MaxDepth {
			wantLookup(t, where, m, path, 0, impl.ErrName)
			wantParent(t, where, m, path, 0, "", impl.ErrName)
			continue
		}
		dir, name, code := impl.Parent(m, path)
		k := slices.IndexFunc(m.Dirents, func(x impl.Dirent) bool { return x.Name == name && x.Dir == dir })
		if code != impl.OK || k < 0 {
			t.Errorf("%s: Parent of %q is %d and %q, code %d", where, path, dir, name, code)
			continue
		}
		wantLookup(t, where, m, path, m.Dirents[k].Child, impl.OK)
		above, _ := aboveAndName(path)
		if above != "" {
			wantLookup(t, where, m, above, dir, impl.OK)
		} else if dir != 0 {
			t.Errorf("%s: Parent of %q is %d, not the root", where, path, dir)
		}
	}
}

func TestP7PathsLeadWhereTheirParentsTell(t *testing.T) {
	for _, m := range append(rightImages(), namedImage{"tree", treeImage()}) {
		wantLeading(t, m.name, m.image)
	}
	d := &dice{state: 71}
	for n := range 300 {
		wantLeading(t, fmt.Sprint("image ", n), rollImage(d))
		wantLeading(t, fmt.Sprint("deep image ", n), rollDeepImage(d))
	}
}

// wantAsByHand holds what is told of an image against a second telling.
func wantAsByHand(t *testing.T, where string, d *dice, m impl.Image, count map[int]int) {
	t.Helper()
	wantPaths(t, where, m, slices.Sorted(maps.Keys(pathsByHand(m)))...)
	for range 20 {
		path := rollPath(d, m)
		i, code := lookupByHand(m, path)
		wantLookup(t, where, m, path, i, code)
		count[code]++
		dir, name, code := parentByHand(m, path)
		wantParent(t, where, m, path, dir, name, code)
	}
	for a, x := range m.Inodes {
		for b, y := range m.Inodes {
			if x.Kind == impl.KindDir && y.Kind == impl.KindDir {
				wantBeneath(t, where, m, a, b, strings.HasPrefix(pathByHand(m, a)+"/", pathByHand(m, b)+"/"))
			}
		}
	}
}

func TestP7RolledImages(t *testing.T) {
	d := &dice{state: 72}
	count := map[int]int{}
	deepest := 0
	for n := range 300 {
		wantAsByHand(t, fmt.Sprint("image ", n), d, rollImage(d), count)
		deep := rollDeepImage(d)
		if !keepsTheRules(deep) {
			t.Fatalf("deep image %d is not right: %v", n, deep)
		}
		wantAsByHand(t, fmt.Sprint("deep image ", n), d, deep, count)
		for path := range pathsByHand(deep) {
			deepest = max(deepest, strings.Count(path, "/"))
		}
	}
	for _, code := range []int{impl.OK, impl.ErrNone, impl.ErrNoDir} {
		if count[code] < 500 {
			t.Errorf("Lookup has the code %d only %d times", code, count[code])
		}
	}
	if deepest <= mostNames {
		t.Error("the deepest path has names:", deepest)
	}
}
