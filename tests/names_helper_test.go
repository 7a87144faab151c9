package tests

import (
	"fmt"
	"maps"
	"slices"
	"strings"
	"testing"

	"loop.example/g00410/impl"
)

// nameCall is a call that plans names; to and kind are of those that take them alone.
type nameCall struct {
	name     string
	path, to string
	kind     int
}

func makeCall(path string, kind int) nameCall {
	return nameCall{name: "PlanMake", path: path, kind: kind}
}

func removeCall(path string) nameCall { return nameCall{name: "PlanRemove", path: path} }

func linkCall(path, to string) nameCall { return nameCall{name: "PlanLink", path: path, to: to} }

func renameCall(path, to string) nameCall { return nameCall{name: "PlanRename", path: path, to: to} }

func (c nameCall) String() string {
	return fmt.Sprintf("%s of %.20q, %.20q, kind %d", c.name, c.path, c.to, c.kind)
}

func (c nameCall) asked(m impl.Image) asked {
	switch c.name {
	case "PlanMake":
		return ask(c.name, impl.PlanMake, m, c.path, c.kind)
	case "PlanRemove":
		return ask(c.name, impl.PlanRemove, m, c.path)
	case "PlanLink":
		return ask(c.name, impl.PlanLink, m, c.path, c.to)
	}
	return ask(c.name, impl.PlanRename, m, c.path, c.to)
}

func (c nameCall) updates(m impl.Image) ([]impl.Update, int) {
	answers := c.asked(m).plainAnswers()
	return answers[0].Interface().([]impl.Update), answers[1].Interface().(int)
}

// direntWords and inodeWord tell a second time where words stand; those of a free entry are of no name and no child.
func direntWords(k, dir int, name string, child int) []impl.Update {
	return updatesFrom(240+3*k, dir, toldAs(name), child+1)
}

func inodeWord(i, field, value int) impl.Update {
	return impl.Update{At: 48 + 12*i + field, Value: value}
}

func entryByHand(m impl.Image, path string) (int, int) {
	if _, _, code := parentByHand(m, path); code != impl.OK {
		return 0, code
	}
	k := slices.IndexFunc(m.Dirents, func(x impl.Dirent) bool {
		return x != freeEntry() && pathByHand(m, x.Dir)+"/"+x.Name == path
	})
	if k < 0 {
		return 0, impl.ErrNone
	}
	return k, impl.OK
}

func newNameByHand(m impl.Image, path string) (int, string, int) {
	dir, name, code := parentByHand(m, path)
	if _, there := pathsByHand(m)[path]; there && code == impl.OK {
		code = impl.ErrTwice
	}
	return dir, name, code
}

func namesByHand(m impl.Image, child int) int {
	count := 0
	for _, x := range m.Dirents {
		if x.Child == child {
			count++
		}
	}
	return count
}

// byHand plans a second time, on images that are right and paths that are some.
func (c nameCall) byHand(m impl.Image) ([]impl.Update, int) {
	switch c.name {
	case "PlanMake":
		return makeByHand(m, c.path, c.kind)
	case "PlanRemove":
		return removeByHand(m, c.path)
	case "PlanLink":
		return linkByHand(m, c.path, c.to)
	}
	return renameByHand(m, c.path, c.to)
}

func makeByHand(m impl.Image, path string, kind int) ([]impl.Update, int) {
	if kind != 1 && kind != 2 {
		return nil, impl.ErrRange
	}
	dir, name, code := newNameByHand(m, path)
	if code != impl.OK {
		return nil, code
	}
	i, k := slices.Index(m.Inodes, impl.Inode{}), slices.Index(m.Dirents, freeEntry())
	if i < 0 || k < 0 {
		return nil, impl.ErrFull
	}
	return append([]impl.Update{inodeWord(i, 0, kind), inodeWord(i, 2, 1)}, direntWords(k, dir, name, i)...), impl.OK
}

func removeByHand(m impl.Image, path string) ([]impl.Update, int) {
	k, code := entryByHand(m, path)
	if code != impl.OK {
		return nil, code
	}
	for other := range pathsByHand(m) {
		if strings.HasPrefix(other, path+"/") {
			return nil, impl.ErrNotEmpty
		}
	}
	list, child := direntWords(k, 0, "", -1), m.Dirents[k].Child
	if names := namesByHand(m, child); names > 1 {
		return append(list, inodeWord(child, 2, names-1)), impl.OK
	}
	return append(list, updatesFrom(48+12*child, make([]int, 11)...)...), impl.OK
}

func linkByHand(m impl.Image, path, to string) ([]impl.Update, int) {
	child, code := lookupByHand(m, path)
	if code != impl.OK {
		return nil, code
	}
	if m.Inodes[child].Kind == impl.KindDir {
		return nil, impl.ErrDir
	}
	dir, name, code := newNameByHand(m, to)
	if code != impl.OK {
		return nil, code
	}
	k := slices.Index(m.Dirents, freeEntry())
	if k < 0 {
		return nil, impl.ErrFull
	}
	return append(direntWords(k, dir, name, child), inodeWord(child, 2, namesByHand(m, child)+1)), impl.OK
}

func renameByHand(m impl.Image, path, to string) ([]impl.Update, int) {
	k, code := entryByHand(m, path)
	if code != impl.OK {
		return nil, code
	}
	dir, name, code := newNameByHand(m, to)
	if code != impl.OK {
		return nil, code
	}
	// Nothing stands in a file, so that this is of a directory.
	if strings.HasPrefix(to, path+"/") {
		return nil, impl.ErrLoop
	}
	return direntWords(k, dir, name, m.Dirents[k].Child), impl.OK
}

// pathsBehind are all paths with their inodes, as they are behind a call that has no code.
func (c nameCall) pathsBehind(m impl.Image) map[string]int {
	paths := pathsByHand(m)
	switch c.name {
	case "PlanMake":
		paths[c.path] = slices.Index(m.Inodes, impl.Inode{})
	case "PlanRemove":
		delete(paths, c.path)
	case "PlanLink":
		paths[c.to] = paths[c.path]
	case "PlanRename":
		moves := func(path string, _ int) bool { return strings.HasPrefix(path+"/", c.path+"/") }
		maps.DeleteFunc(paths, moves)
		for path, i := range pathsByHand(m) {
			if moves(path, i) {
				paths[c.to+path[len(c.path):]] = i
			}
		}
	}
	return paths
}

// wantFound asks for these paths and for no others.
func wantFound(t *testing.T, where string, m impl.Image, paths map[string]int) {
	t.Helper()
	wantPaths(t, where, m, slices.Sorted(maps.Keys(paths))...)
	for path, i := range paths {
		if strings.Count(path, "/") <= mostNames {
			wantLookup(t, where, m, path, i, impl.OK)
		}
	}
}

// devicesOf are an image with an empty journal, all of it sure.
func devicesOf(m impl.Image) impl.Devices {
	d := impl.Devices{Pm: memoryOf(m), Blk: zeroDevice()}
	d.Pm.Words[impl.JournalAt] = 0
	return d
}

// wantPlanned holds a call, and what is there when its updates are applied or its journal is done, against a second telling; it answers the image behind it.
func wantPlanned(t *testing.T, where string, m impl.Image, c nameCall) (impl.Image, int) {
	t.Helper()
	where = fmt.Sprint(where, ": ", c)
	want, wantedCode := c.byHand(m)
	list, code := c.updates(m)
	if code != wantedCode || !slices.Equal(list, want) {
		t.Fatalf("%s: the updates are %v, code %d, not %v, code %d", where, list, code, want, wantedCode)
	}
	if code != impl.OK {
		return m, code
	}
	d := devicesOf(m)
	p, code := impl.ApplyUpdates(d.Pm, list)
	if code != impl.OK || !samePm(p, applied(d.Pm, want)) {
		t.Fatalf("%s: ApplyUpdates has the code %d, or the words are others", where, code)
	}
	after, code := impl.ReadImage(p)
	if code != impl.OK || !impl.ImageOK(after) || !keepsTheRules(after) {
		t.Fatalf("%s: the image behind it is not right, code %d: %v", where, code, after)
	}
	wantFound(t, where, after, c.pathsBehind(m))
	journaled := do(t, d, journalPlan(t, list)...)
	if !isSettled(journaled.Pm) || !sameOutside(journaled.Pm, p) {
		t.Fatalf("%s: the journal leaves other words, or not all is sure", where)
	}
	return after, impl.OK
}

// codedCall is a call with the code that it is to have.
type codedCall struct {
	nameCall
	code int
}

func (c nameCall) has(code int) codedCall { return codedCall{c, code} }

// wantRun does calls one behind the other, each with its code, and answers the image behind them.
func wantRun(t *testing.T, where string, m impl.Image, calls ...codedCall) impl.Image {
	t.Helper()
	for _, c := range calls {
		after, code := wantPlanned(t, where, m, c.nameCall)
		if code != c.code {
			t.Fatalf("%s: %v has the code %d, not %d", where, c, code, c.code)
		}
		m = after
	}
	return m
}

// addName gives an inode one more name in the root.
func addName(m *impl.Image, child int) {
	k := slices.Index(m.Dirents, freeEntry())
	m.Dirents[k] = impl.Dirent{Name: "x" + nameOf(k+1), Child: child}
	m.Inodes[child].Links++
}

func countOf[T comparable](list []T, x T) int {
	count := 0
	for _, y := range list {
		if x == y {
			count++
		}
	}
	return count
}

// crowded is smallImage with so many free inodes and free entries left: files are made, then names of the file 4.
func crowded(inodes, entries int) impl.Image {
	m := smallImage()
	for countOf(m.Inodes, impl.Inode{}) > inodes {
		i := slices.Index(m.Inodes, impl.Inode{})
		m.Inodes[i].Kind = impl.KindFile
		addName(&m, i)
	}
	for countOf(m.Dirents, freeEntry()) > entries {
		addName(&m, 4)
	}
	return m
}

// wronged is an image with one link too many, its paths being as they were.
func wronged(m impl.Image) impl.Image {
	m = cloneImage(m)
	m.Inodes[1].Links++
	return m
}

// fault is a path with the code that it has by itself in smallImage; OK if it has none.
type fault struct {
	path string
	code int
}

// parentFaults are Parent's; those that are no paths would have another fault too.
func parentFaults() []fault {
	return []fault{
		{"", impl.ErrName}, {"nobody", impl.ErrName}, {"//", impl.ErrName}, {"/f/", impl.ErrName}, {"/d/", impl.ErrName}, {"/f/X", impl.ErrName}, {"/nobody/X", impl.ErrName},
		{"/d/d/aaaaaa/a/b/c/d", impl.ErrName}, {strings.Repeat("/a", impl.MaxText/2), impl.ErrName},
		{"/", impl.ErrRoot},
		{"/f/x", impl.ErrNoDir}, {"/f/x/y", impl.ErrNoDir}, {"/d/g/f", impl.ErrNoDir}, {"/d/d/e/f", impl.ErrNoDir},
		{"/nobody/x", impl.ErrNone}, {"/d/nobody/f", impl.ErrNone}, {"/nobody/f/x", impl.ErrNone}, {"/d/d/aaaaaa/x/e", impl.ErrNone},
	}
}

// newNames are paths of what is to be there.
func newNames() []fault {
	return append(parentFaults(),
		fault{"/f", impl.ErrTwice}, fault{"/d", impl.ErrTwice}, fault{"/zzzzzz", impl.ErrTwice}, fault{"/d/g", impl.ErrTwice}, fault{"/d/d", impl.ErrTwice}, fault{"/d/d/aaaaaa", impl.ErrTwice},
		fault{"/new", impl.OK}, fault{"/g", impl.OK}, fault{"/e", impl.OK}, fault{"/ff", impl.OK}, fault{"/d/f", impl.OK}, fault{"/d/d/d", impl.OK}, fault{"/d/d/aaaaaa/f", impl.OK},
	)
}

// oldNames are paths of what is there.
func oldNames() []fault {
	return append(parentFaults(),
		fault{"/nobody", impl.ErrNone}, fault{"/g", impl.ErrNone}, fault{"/ff", impl.ErrNone}, fault{"/zzzzz", impl.ErrNone}, fault{"/d/f", impl.ErrNone}, fault{"/d/d/aaaaaa/e", impl.ErrNone},
		fault{"/f", impl.OK}, fault{"/d", impl.OK}, fault{"/zzzzzz", impl.OK}, fault{"/d/g", impl.OK}, fault{"/d/d", impl.OK}, fault{"/d/d/e", impl.OK}, fault{"/d/d/aaaaaa", impl.OK},
	)
}

// noKinds are neither a file's nor a directory's.
func noKinds() []int {
	return append(noIndexes(impl.KindDir), impl.KindFree)
}

// someCalls have all codes in smallImage, and none.
func someCalls() []nameCall {
	list := []nameCall{linkCall("/f", "/x"), linkCall("/d", "/x"), linkCall("/", "/"), linkCall("/nobody", "/x"), linkCall("/f/x", "//"), linkCall("", "/x"), renameCall("/d", "/d/x"), renameCall("/d", "/d/d"), renameCall("/d/d", "/x"), renameCall("/f", "/f"), renameCall("/", "/x"), renameCall("f", "")}
	for _, x := range newNames() {
		list = append(list, makeCall(x.path, impl.KindFile), makeCall(x.path, impl.KindDir), makeCall(x.path, 3), linkCall("/d/d/e", x.path), renameCall("/d/g", x.path))
	}
	for _, x := range oldNames() {
		list = append(list, removeCall(x.path), linkCall(x.path, "/x"), renameCall(x.path, "/d/x"))
	}
	return list
}

func applyCall(p impl.Pm, list ...impl.Update) asked {
	return ask("ApplyUpdates", impl.ApplyUpdates, p, list)
}

// rollThere is a path that is there more often than not.
func rollThere(d *dice, m impl.Image) string {
	paths := slices.Sorted(maps.Keys(pathsByHand(m)))
	path := append(paths, "/")[d.roll(len(paths)+1)]
	if d.roll(5) == 0 || strings.Count(path, "/") > mostNames {
		return rollPath(d, m)
	}
	return path
}

// rollNew is a path of a new name in a directory more often than not, the root being one as often as all others.
func rollNew(d *dice, m impl.Image) string {
	above := ""
	if i := d.roll(2 * len(m.Inodes)); i < len(m.Inodes) && m.Inodes[i].Kind == impl.KindDir {
		above = pathByHand(m, i)
	}
	if d.roll(4) == 0 || strings.Count(above, "/") >= mostNames {
		return rollPath(d, m)
	}
	return above + "/" + rollName(d)
}

func rollCall(d *dice, m impl.Image) nameCall {
	there, to := rollThere(d, m), rollNew(d, m)
	if d.roll(5) == 0 && there != "/" && strings.Count(there, "/") < mostNames {
		to = there + "/" + rollName(d)
	}
	switch d.roll(8) {
	case 0, 1, 2:
		return makeCall(to, []int{1, 2, 1, 2, 1, 2, 0, 3}[d.roll(8)])
	case 3:
		return removeCall(there)
	case 4, 5:
		return linkCall(there, to)
	}
	return renameCall(there, to)
}
