package tests

import (
	"fmt"
	"maps"
	"slices"
	"testing"

	"loop.example/g00410/impl"
)

const mostRecoverSteps = 200

func crashFsCall(f impl.Fs, keeps []int) asked { return ask("CrashFs", impl.CrashFs, f, keeps) }

func crashTwiceCall(f impl.Fs, keeps []int, steps int, again []int) asked {
	return ask("CrashTwice", impl.CrashTwice, f, keeps, steps, again)
}

func recoverPlanCall(d impl.Devices) asked { return ask("RecoverPlan", impl.RecoverPlan, d) }

func recoverCall(d impl.Devices) asked { return ask("Recover", impl.Recover, d) }

// survivorsByHand tells place by place what is there behind a crash, unlike the program, which tells it store by store.
func survivorsByHand(words []int, stores []impl.Update, keeps []int) []int {
	words = slices.Clone(words)
	own := map[int][]int{}
	for _, s := range stores {
		own[s.At] = append(own[s.At], s.Value)
	}
	for i, at := range slices.Sorted(maps.Keys(own)) {
		if n := min(keepByHand(keeps, i), len(own[at])); n > 0 {
			words[at] = own[at][n-1]
		}
	}
	return words
}

func keepByHand(keeps []int, i int) int {
	if len(keeps) == 0 {
		return 0
	}
	return keeps[i%len(keeps)]
}

func crashedByHand(d impl.Devices, keeps []int) impl.Devices {
	var stores, writes []impl.Update
	for _, s := range d.Pm.Pending {
		stores = append(stores, impl.Update{At: s.At, Value: s.Value})
	}
	for _, w := range d.Blk.Pending {
		writes = append(writes, impl.Update{At: w.At, Value: w.Value})
	}
	return impl.Devices{
		Pm:  impl.Pm{Words: survivorsByHand(d.Pm.Words, stores, keeps)},
		Blk: impl.Blk{Sectors: survivorsByHand(d.Blk.Sectors, writes, keeps)},
	}
}

// journalByHand are the updates that devices on which all is sure have in their journal; false if it is in no form.
func journalByHand(d impl.Devices) ([]impl.Update, bool) {
	words := d.Pm.Words
	if words[8] > 16 {
		return nil, false
	}
	var list []impl.Update
	for at := 9; at < 9+2*words[8]; at += 2 {
		if words[at] < 48 || words[at] > 335 {
			return nil, false
		}
		list = append(list, impl.Update{At: words[at], Value: words[at+1]})
	}
	return list, true
}

// recoveredByHand is of devices on which all is sure; false if they can't be recovered.
func recoveredByHand(d impl.Devices) (impl.Fs, bool) {
	list, ok := journalByHand(d)
	if !ok {
		return impl.Fs{}, false
	}
	pm := applied(d.Pm, list)
	pm.Words[8] = 0
	if _, ok = readByHand(pm.Words); !ok {
		return impl.Fs{}, false
	}
	return impl.Fs{Devices: impl.Devices{Pm: pm, Blk: d.Blk}, Heat: evenHeat(1)}, true
}

// crashFs is CrashFs, held against its second telling.
func crashFs(t *testing.T, where string, f impl.Fs, keeps []int) impl.Devices {
	t.Helper()
	d, code := impl.CrashFs(f, keeps)
	if code != impl.OK || !samePair(d, crashedByHand(f.Devices, keeps)) {
		t.Fatalf("%s: CrashFs with %v has the code %d, or leaves other devices", where, keeps, code)
	}
	return d
}

// recoverPlan is RecoverPlan, held against its second telling.
func recoverPlan(t *testing.T, where string, d impl.Devices) []impl.Micro {
	t.Helper()
	list, ok := journalByHand(d)
	var want []impl.Micro
	if len(list) > 0 {
		want = wantedApplied(list)
	}
	plan, code := impl.RecoverPlan(d)
	if code != impl.OK || !ok || !slices.Equal(plan, want) {
		t.Fatalf("%s: RecoverPlan has the code %d and is %v, not %v", where, code, plan, want)
	}
	return plan
}

// recoverFs is Recover, held against its second telling: it is right, with new heat, nothing to be done and no answer.
func recoverFs(t *testing.T, where string, d impl.Devices) impl.Fs {
	t.Helper()
	want, ok := recoveredByHand(d)
	f, code := impl.Recover(d)
	if code != impl.OK || !ok {
		t.Fatalf("%s: Recover has the code %d; can it be recovered: %v", where, code, ok)
	}
	wantFs(t, where+": Recover", f, want)
	return f
}

// recovered is behind a crash and a recovery.
func recovered(t *testing.T, where string, f impl.Fs, keeps []int) impl.Fs {
	t.Helper()
	return recoverFs(t, where, crashFs(t, where, f, keeps))
}

// twiceByHand is behind a crash, a recovery that crashes behind so many of its steps, and another one.
func twiceByHand(t *testing.T, where string, f impl.Fs, keeps []int, steps int, again []int) impl.Fs {
	t.Helper()
	d := crashedByHand(f.Devices, keeps)
	list, ok := journalByHand(d)
	if ok && len(list) > 0 {
		plan := wantedApplied(list)
		d = crashedByHand(do(t, d, plan[:min(steps, len(plan))]...), again)
	}
	want, good := recoveredByHand(d)
	if !ok || !good {
		t.Fatalf("%s: it can't be recovered", where)
	}
	return want
}

// crashTwice is CrashTwice, held against its second telling.
func crashTwice(t *testing.T, where string, f impl.Fs, keeps []int, steps int, again []int) impl.Fs {
	t.Helper()
	where = fmt.Sprintf("%s: CrashTwice with %v, %d, %v", where, keeps, steps, again)
	got, code := impl.CrashTwice(f, keeps, steps, again)
	if code != impl.OK {
		t.Fatalf("%s has the code %d", where, code)
	}
	wantFs(t, where, got, twiceByHand(t, where, f, keeps, steps, again))
	return got
}

// files are all that is there: names, links, where pages are, and what they are.
type files struct {
	image    impl.Image
	contents map[int][]int
}

func filesOf(t *testing.T, where string, d impl.Devices) files {
	t.Helper()
	m := imageByHand(t, where, d)
	return files{m, contentsByHand(m, d)}
}

func wantFiles(t *testing.T, where string, d impl.Devices, want files) {
	t.Helper()
	got := filesOf(t, where, d)
	if !sameImage(got.image, want.image) {
		t.Fatalf("%s: the image is another one", where)
	}
	if !sameContents(got.contents, want.contents) {
		t.Fatalf("%s: the files are %v, not %v", where, got.contents, want.contents)
	}
}

// wantSeen asks for the same through the calls that look at files.
func wantSeen(t *testing.T, where string, d impl.Devices, want files) {
	t.Helper()
	m, code := impl.ReadImage(d.Pm)
	if code != impl.OK {
		t.Fatalf("%s: ReadImage has the code %d", where, code)
	}
	paths := pathsByHand(want.image)
	wantFound(t, where, m, paths)
	wantContents(t, where, d, paths, want.contents)
}

// midst is something that has just begun, with all files as they are ahead of it, and as they are behind it.
type midst struct {
	namedFs
	ahead, behind files
}

// beginOp is an operation in the midst of which it may crash; what is behind it is told of paths and pages, not of steps.
func beginOp(t *testing.T, name string, f impl.Fs, o impl.Op) midst {
	t.Helper()
	name = fmt.Sprintf("%s: %+v", name, o)
	x := midst{namedFs{name, startOp(t, name, f, o)}, filesOf(t, name, f.Devices), files{}}
	x.behind = x.ahead
	if x.fs.Answer.Code == impl.OK {
		var paths map[string]int
		paths, x.behind.contents = behindByHand(x.ahead.image, f.Devices, o)
		x.behind.image = imageByHand(t, name, do(t, f.Devices, x.fs.Todo...))
		wantFound(t, name, x.behind.image, paths)
	}
	return x
}

// beginMove is a move in the midst of which it may crash: only where a page is differs behind it.
func beginMove(t *testing.T, name string, f impl.Fs, up bool) midst {
	t.Helper()
	name = fmt.Sprint(name, ": a move, up: ", up)
	x := midst{namedFs{name, startMove(t, name, f, up)}, filesOf(t, name, f.Devices), files{}}
	x.behind = files{imageByHand(t, name, do(t, f.Devices, x.fs.Todo...)), x.ahead.contents}
	return x
}

// turn is the step that makes what is behind of what was ahead, if its store survives: that of the journal's count, or of where a page is.
func turn(todo []impl.Micro) int {
	isCount := func(m impl.Micro) bool { return m.Kind == impl.MiStore && m.At == impl.JournalAt }
	if at := slices.IndexFunc(todo, isCount); at >= 0 {
		return at
	}
	for at := len(todo) - 1; at >= 0; at-- {
		if todo[at].Kind == impl.MiStore {
			return at
		}
	}
	return -1
}

// after is what all files are to be like when it crashes behind so many steps: the store of the turn is alone in not being sure.
func (x midst) after(steps int, keeps []int) files {
	at := turn(x.fs.Todo)
	if steps >= at+3 || steps > at && keepByHand(keeps, 0) > 0 {
		return x.behind
	}
	return x.ahead
}

// begunAnywhere are operations of each kind and both moves, on pages and on sectors.
func begunAnywhere(t *testing.T) []midst {
	t.Helper()
	small := resting(smallImage())
	small.Heat = risingHeat()
	var list []midst
	for _, o := range opsOfEachKind() {
		list = append(list, beginOp(t, "small", small, o))
	}
	for _, up := range []bool{false, true} {
		list = append(list, beginMove(t, "small", small, up), beginMove(t, "one free", resting(packed(1, 1)), up))
	}
	tree := resting(treeImage())
	sector := resting(packed(0, 1))
	return append(list,
		beginOp(t, "a new one", impl.NewFs(), mkdirOp("/d")),
		beginOp(t, "a sector", sector, writeOp("/f", 0, 5)),
		beginOp(t, "a sector", sector, writeOp("/d/d/e", 6, 5)),
		beginOp(t, "a sector", sector, removeOp("/zzzzzz")),
		beginOp(t, "full", resting(fullImage()), cutOp("/a", 0)),
		beginOp(t, "full", resting(fullImage()), writeOp("/a", 0, 5)),
		beginOp(t, "the tree", tree, removeOp(pathOfAFile(tree))),
	)
}

func pathOfAFile(f impl.Fs) string {
	m, _ := readByHand(f.Devices.Pm.Words)
	for _, path := range slices.Sorted(maps.Keys(pathsByHand(m))) {
		if _, code := fileByHand(m, path); code == impl.OK {
			return path
		}
	}
	return "/"
}

// keepsFor keep nothing, all, the first of each place, some by dice, each place alone, and all but each.
func keepsFor(d *dice, f impl.Fs) [][]int {
	list := [][]int{nil, {0}, {400}, {1}, {2, 2}, {0, 1}, {1, 0}, rollKeeps(d), rollKeeps(d)}
	words, _ := impl.PmUnsure(f.Devices.Pm)
	sectors, _ := impl.BlkUnsure(f.Devices.Blk)
	n := max(len(words), len(sectors))
	for i := range n {
		alone, others := make([]int, n), slices.Repeat([]int{400}, n)
		alone[i], others[i] = 1, 0
		list = append(list, alone, others)
	}
	return list
}

// notedOn are devices with nothing to be made sure whose journal has these updates.
func notedOn(d impl.Devices, list ...impl.Update) impl.Devices {
	words := slices.Clone(d.Pm.Words)
	words[8] = len(list)
	for i, u := range list {
		words[9+2*i], words[10+2*i] = u.At, u.Value
	}
	return impl.Devices{Pm: impl.Pm{Words: words}, Blk: d.Blk}
}

// unsureBothWays has stores and writes that are not sure, some places with more than one, and a step to be done.
func unsureBothWays() impl.Fs {
	f := resting(smallImage())
	f.Devices = unsure(f.Devices, []impl.Store{
		{At: 330, Value: 1}, {At: 20, Value: 2, Flushed: true}, {At: 330, Value: 3}, {At: 0, Value: 4}, {At: 330, Value: 5}, {At: 20, Value: 6},
	}, []impl.Sector{{At: 31, Value: 7}, {At: 9, Value: 8}, {At: 31, Value: 9}})
	f.Todo = fences(1)
	return f
}
