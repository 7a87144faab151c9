package tests

import (
	"fmt"
	"slices"
	"strings"
	"testing"

	"loop.example/g00410/impl"
)

func TestP13NewModel(t *testing.T) {
	m := impl.NewModel()
	want := modelByHand(bareImage(), nil)
	if !identical(m, want) || !impl.ModelOK(m) || len(m.Things) != 16 || len(m.Dirents) != 24 {
		t.Errorf("NewModel is %v, not %v", m, want)
	}
	if !identical(m, modelOf(t, "new devices", impl.NewDevices())) || !identical(m, modelOf(t, "a new file system", impl.NewFs().Devices)) {
		t.Error("NewModel is not that of new devices")
	}
}

func TestP13ModelOfDevices(t *testing.T) {
	small := modelOf(t, "small", housed(smallImage()))
	for i, want := range map[int]impl.Thing{
		0:  {Kind: 2, Links: 1},
		1:  {Kind: 1, Links: 2, Pages: []int{1312, 0, 1000}},
		2:  {Kind: 2, Links: 1},
		4:  {Kind: 1, Links: 1},
		6:  {},
		15: {Kind: 1, Links: 1, Pages: []int{1335, 1031, 0, 1313, 1002, 0, 0, 1314}},
	} {
		if x := small.Things[i]; x.Kind != want.Kind || x.Links != want.Links || !slices.Equal(x.Pages, want.Pages) {
			t.Errorf("thing %d is %v, not %v", i, x, want)
		}
	}
	if !slices.Equal(small.Dirents, smallImage().Dirents) {
		t.Errorf("the entries are %v", small.Dirents)
	}
	for _, x := range restingSystems() {
		modelOf(t, x.name, x.fs.Devices)
	}
	// A journal that is not empty says nothing of what is there.
	if m := modelOf(t, "a journal", notedOn(housed(smallImage()), impl.Update{At: 312, Value: 5})); !identical(m, small) {
		t.Error("what is only in the journal is in the model")
	}
	d := &dice{state: 130}
	for n := range 200 {
		modelOf(t, fmt.Sprint("image ", n), rollUnsure(t, d, housed(rollImage(d))))
	}
}

// What is not sure is there as it is loaded.
func TestP13ModelOfWhatIsNotSure(t *testing.T) {
	right := housed(smallImage())
	sure := modelOf(t, "sure", right)
	cases := []struct {
		name   string
		stores []impl.Store
		writes []impl.Sector
		path   string
		want   string
	}{
		{"a page", []impl.Store{{At: 312, Value: 5}, {At: 312, Value: 6, Flushed: true}, {At: 312, Value: 7}}, nil, "/f", "file 2: 7 0 1000"},
		{"a sector", nil, []impl.Sector{{At: 0, Value: 8}, {At: 0, Value: 9}}, "/d/g", "file 2: 1312 0 9"},
		{"where a page is", []impl.Store{{At: 64, Value: pageEntry(5)}}, nil, "/f", "file 2: 1312 1317 1000"},
		{"a size", []impl.Store{{At: 97, Value: 2}}, nil, "/d/d/e", "file 1: 0 0"},
		{"a name", []impl.Store{{At: 241, Value: toldAs("x")}}, nil, "/x", "file 2: 1312 0 1000"},
		{"a directory where a file was", []impl.Store{{At: 96, Value: 2}}, nil, "/d/d/e", "dir"},
	}
	for _, c := range cases {
		d := unsure(right, c.stores, c.writes)
		m := modelOf(t, c.name, d)
		if text := textByHand(m); !slices.Contains(text, c.path+" "+c.want) {
			t.Errorf("%s: %q is not as it is loaded: %q", c.name, c.path, text)
		}
		wantSame(t, c.name, m, sure, false)
		wantSame(t, c.name+", lost", modelOf(t, c.name, crashedByHand(d, nil)), sure, true)
		wantSame(t, c.name+", kept", modelOf(t, c.name, crashedByHand(d, []int{400})), m, true)
	}
	same := unsure(right, []impl.Store{{At: 20, Value: 5}, {At: 330, Value: 6}, {At: 312, Value: 1312}}, []impl.Sector{{At: 9, Value: 5}})
	if !identical(modelOf(t, "what no file has", same), sure) {
		t.Error("stores that no file has are in the model")
	}
}

// In the midst of an operation's steps there is a model where there is a right image, and none elsewhere.
func TestP13ModelOfSteps(t *testing.T) {
	right, wrong := 0, 0
	for _, x := range begunAnywhere(t) {
		f := x.fs
		for n := 0; ; n++ {
			where := fmt.Sprint(x.name, ", ", n, " steps")
			if _, ok := readByHand(wordsByHand(f.Devices.Pm)); ok {
				modelOf(t, where, f.Devices)
				right++
			} else {
				wantCode(t, where, modelOfCall(f.Devices), impl.ErrBad)
				wrong++
			}
			if len(f.Todo) == 0 {
				break
			}
			f = steppedByHand(t, f, 1)
		}
	}
	if right < 100 || wrong < 10 {
		t.Errorf("there were %d right images and %d that were not", right, wrong)
	}
}

// Where a page is, or that it has moved, is not in the model.
func TestP13MovesAreNotInTheModel(t *testing.T) {
	d := &dice{state: 131}
	moves := 0
	for n := range 60 {
		f := impl.Fs{Devices: housed(rollImage(d)), Heat: rollHeat(d, 5)}
		want := modelOf(t, "ahead", f.Devices)
		for step := range 6 {
			where := fmt.Sprint("run ", n, ", move ", step)
			x, code := impl.StartMove(f, d.roll(2) == 0)
			if code != impl.OK {
				continue
			}
			for len(x.Todo) > 0 {
				if got, code := impl.ModelOf(x.Devices); code != impl.OK || !identical(got, want) {
					t.Fatalf("%s: with %d steps left the model is another one, code %d", where, len(x.Todo), code)
				}
				x = steppedByHand(t, x, 1)
			}
			f = x
			moves++
			if !identical(modelOf(t, where, f.Devices), want) {
				t.Fatalf("%s: the model is another one", where)
			}
		}
	}
	if moves < 100 {
		t.Errorf("only %d pages moved", moves)
	}
}

// both is a file system and its model, to which the same is done.
type both struct {
	fs    impl.Fs
	model impl.Model
}

func newBoth() both { return both{impl.NewFs(), impl.NewModel()} }

// bothOf begins with what is there.
func bothOf(t *testing.T, where string, f impl.Fs) both {
	t.Helper()
	return both{f, modelOf(t, where, f.Devices)}
}

// do is promise 13 of one operation: the answers are alike, and the same is there behind it, but for a write that is told that it is full.
func (x both) do(t *testing.T, where string, o impl.Op) (both, impl.Answer) {
	t.Helper()
	where = fmt.Sprintf("%s: %.80q", where, fmt.Sprintf("%+v", o))
	f, a, code := impl.DoOp(x.fs, o)
	m, b, modelCode := impl.ModelDo(x.model, o)
	if code != impl.OK || modelCode != impl.OK {
		t.Fatalf("%s: DoOp has the code %d, ModelDo %d", where, code, modelCode)
	}
	if o.Kind == impl.OpWrite && a.Code == impl.ErrFull {
		if !sameAnswer(b, impl.Answer{}) {
			t.Fatalf("%s: a write that has room answers %v", where, b)
		}
		// As the file system does nothing, its model is left as it was.
		m = x.model
	} else if !sameAnswer(a, b) {
		t.Fatalf("%s: the file system answers %v, its model %v", where, a, b)
	}
	now, code := impl.ModelOf(f.Devices)
	if code != impl.OK || !identical(now, m) || !impl.ModelOK(m) {
		t.Fatalf("%s: what is there, code %d, is\n%v, not\n%v", where, code, now, m)
	}
	wantSame(t, where, now, m, true)
	if (a.Code != impl.OK || o.Kind >= impl.OpRead) && !identical(m, x.model) {
		t.Fatalf("%s: with the answer %v the model is another one", where, a)
	}
	return both{f, m}, a
}

// want does an operation to both, and asks for its answer.
func (x both) want(t *testing.T, where string, o impl.Op, want impl.Answer) both {
	t.Helper()
	modelDo(t, where, x.model, o)
	after, a := x.do(t, where, o)
	if !sameAnswer(a, want) {
		t.Fatalf("%s: %+v has the answer %v, not %v", where, o, a, want)
	}
	return after
}

func TestP13AnswersOneByOne(t *testing.T) {
	x := newBoth()
	ok, code, value := impl.Answer{}, func(n int) impl.Answer { return impl.Answer{Code: n} }, func(n int) impl.Answer { return impl.Answer{Value: n} }
	for _, c := range []struct {
		op   impl.Op
		want impl.Answer
	}{
		{listOp("/"), ok}, {statOp("/"), value(201)}, {statOp("/a"), code(impl.ErrNone)},
		{makeOp("/a"), ok}, {makeOp("/a"), code(impl.ErrTwice)}, {mkdirOp("/a"), code(impl.ErrTwice)}, {mkdirOp("/"), code(impl.ErrRoot)}, {makeOp("/b/c"), code(impl.ErrNone)}, {makeOp("/a/c"), code(impl.ErrNoDir)}, {makeOp("a"), code(impl.ErrName)},
		{statOp("/a"), value(101)}, {readOp("/a", 0), code(impl.ErrRange)},
		{writeOp("/a", 2, 7), ok}, {writeOp("/a", 8, 7), code(impl.ErrRange)}, {writeOp("/a", 0, -1), code(impl.ErrRange)}, {writeOp("/a", 0, impl.MaxWord), code(impl.ErrRange)},
		{readOp("/a", 0), value(0)}, {readOp("/a", 2), value(7)}, {readOp("/a", 3), code(impl.ErrRange)}, {readOp("/a", -1), code(impl.ErrRange)}, {statOp("/a"), value(131)},
		{mkdirOp("/b"), ok}, {linkOp("/a", "/b/c"), ok}, {linkOp("/b", "/d"), code(impl.ErrDir)}, {linkOp("/a", "/b/c"), code(impl.ErrTwice)}, {linkOp("/a", "/a/x"), code(impl.ErrNoDir)}, {linkOp("/x", "/y"), code(impl.ErrNone)},
		{writeOp("/b/c", 0, impl.MaxWord-1), ok}, {readOp("/a", 0), value(impl.MaxWord - 1)}, {statOp("/b/c"), value(132)},
		{cutOp("/a", 1), ok}, {readOp("/b/c", 2), code(impl.ErrRange)}, {cutOp("/b/c", 4), ok}, {readOp("/a", 2), value(0)}, {cutOp("/a", 9), code(impl.ErrRange)}, {cutOp("/a", -1), code(impl.ErrRange)}, {statOp("/a"), value(142)},
		{removeOp("/b"), code(impl.ErrNotEmpty)}, {removeOp("/"), code(impl.ErrRoot)}, {removeOp("/x"), code(impl.ErrNone)},
		{renameOp("/a", "/b/c"), code(impl.ErrTwice)}, {renameOp("/a", "/b/a"), ok}, {renameOp("/b", "/b/d"), code(impl.ErrLoop)}, {renameOp("/b", "/"), code(impl.ErrRoot)}, {renameOp("/b", "/d"), ok},
		{listOp("/"), impl.Answer{Names: []string{"d"}}}, {listOp("/d"), impl.Answer{Names: []string{"a", "c"}}}, {listOp("/d/a"), code(impl.ErrNoDir)}, {listOp("/b"), code(impl.ErrNone)}, {statOp("/d"), value(201)},
		{readOp("/d", 0), code(impl.ErrDir)}, {writeOp("/d", 0, 1), code(impl.ErrDir)}, {cutOp("/", 0), code(impl.ErrDir)},
		{removeOp("/d/a"), ok}, {statOp("/d/c"), value(141)}, {readOp("/d/c", 0), value(impl.MaxWord - 1)},
		{removeOp("/d/c"), ok}, {listOp("/d"), ok}, {removeOp("/d"), ok}, {listOp("/"), ok},
		{makeOp("/a"), ok}, {statOp("/a"), value(101)}, {writeOp("/a", 7, 5), ok}, {readOp("/a", 0), value(0)},
	} {
		// A text that is no path has no second telling.
		if c.op.Path == "a" {
			after, a := x.do(t, "one by one", c.op)
			if !sameAnswer(a, c.want) {
				t.Fatalf("%+v has the answer %v, not %v", c.op, a, c.want)
			}
			x = after
			continue
		}
		x = x.want(t, "one by one", c.op, c.want)
	}
	wantText(t, "behind them", x.model, "/a file 1: 0 0 0 0 0 0 0 5")
}

// rollRun does rolled operations and moves; it counts their answers.
func rollRun(t *testing.T, d *dice, where string, x both, steps int, count map[string]int) {
	t.Helper()
	for step := range steps {
		where := fmt.Sprint(where, ", step ", step)
		if d.roll(3) == 0 {
			if moving, code := impl.StartMove(x.fs, d.roll(2) == 0); code == impl.OK {
				x.fs, _ = impl.FinishFs(moving)
				count["moves"]++
			}
		}
		o := rollOp(d, imageOfModel(x.model))
		// What the model does by itself is told a second time.
		modelDo(t, where, x.model, o)
		after, a := x.do(t, where, o)
		count[fmt.Sprint("code ", a.Code)]++
		if a.Code == impl.OK {
			count[fmt.Sprint("kind ", o.Kind)]++
		}
		if a.Code == impl.ErrFull && o.Kind == impl.OpWrite {
			count["full writes"]++
		}
		x = after
	}
}

func TestP13RolledRuns(t *testing.T) {
	d := &dice{state: 132}
	count := map[string]int{}
	for n := range 30 {
		where := fmt.Sprint("run ", n)
		switch n % 5 {
		case 0:
			rollRun(t, d, where, newBoth(), 150, count)
		case 1:
			rollRun(t, d, where, bothOf(t, where, resting(rollImage(d))), 60, count)
		default:
			// Where there is little room, cuts and removals soon make some.
			rollRun(t, d, where, bothOf(t, where, resting(packed(d.roll(2), d.roll(2)))), 25, count)
		}
	}
	for _, code := range []int{impl.OK, impl.ErrRange, impl.ErrNone, impl.ErrFull, impl.ErrTwice, impl.ErrDir, impl.ErrNoDir, impl.ErrNotEmpty, impl.ErrLoop, impl.ErrRoot} {
		if name := fmt.Sprint("code ", code); count[name] < 3 {
			t.Errorf("%s came only %d times: %v", name, count[name], count)
		}
	}
	for kind := impl.OpMake; kind <= impl.OpList; kind++ {
		if name := fmt.Sprint("kind ", kind); count[name] < 20 {
			t.Errorf("%s was done only %d times: %v", name, count[name], count)
		}
	}
	if count["moves"] < 50 || count["full writes"] < 10 {
		t.Errorf("moves and full writes came too seldom: %v", count)
	}
}

// A model that goes on by itself where the file system was full has its own files from then on.
func TestP13RolledModelsAlone(t *testing.T) {
	d := &dice{state: 133}
	most := 0
	for n := range 12 {
		m := impl.NewModel()
		if n%3 == 0 {
			m = crammed()
		}
		for step := range 80 {
			m, _ = modelDo(t, fmt.Sprint("run ", n, ", step ", step), m, rollOp(d, imageOfModel(m)))
		}
		pages := 0
		for _, x := range m.Things {
			pages += len(x.Pages)
		}
		most = max(most, pages)
	}
	if most <= impl.Pages+impl.BlkSize {
		t.Errorf("no model has more pages than there are addresses: %d", most)
	}
}

// With both tiers full each write is told so, of pages that are there and beyond the end; the model has room.
func TestP13WritesWithoutRoom(t *testing.T) {
	full := resting(fullImage())
	x := bothOf(t, "full", full)
	for n := 1; n <= lastInode; n++ {
		path := "/" + nameOf(n)
		for page := range mostPages {
			o := writeOp(path, page, 70+page)
			same := x.want(t, "full", o, impl.Answer{Code: impl.ErrFull})
			if !sameFs(same.fs, full) {
				t.Fatalf("%+v changes a full file system", o)
			}
			after, a := modelDo(t, "full", x.model, o)
			old := x.model.Things[n].Pages
			want := slices.Concat(old, make([]int, mostPages))
			want[page] = 70 + page
			if !sameAnswer(a, impl.Answer{}) || !slices.Equal(after.Things[n].Pages, want[:max(len(old), page+1)]) {
				t.Fatalf("%+v: the model answers %v, and the pages are %v", o, a, after.Things[n].Pages)
			}
			if got, a := modelDo(t, "full", after, readOp(path, page)); a.Value != 70+page || !identical(got, after) {
				t.Fatalf("%+v: the model reads %v", o, a)
			}
		}
		for _, o := range []impl.Op{writeOp(path, 8, 1), writeOp(path, -1, 1), writeOp(path, 0, impl.MaxWord)} {
			x.want(t, "full", o, impl.Answer{Code: impl.ErrRange})
		}
	}
	// Full of inodes and entries is told by both.
	x.want(t, "full", makeOp("/new"), impl.Answer{Code: impl.ErrFull})
	x.want(t, "full", mkdirOp("/new"), impl.Answer{Code: impl.ErrFull})
	x.want(t, "full", linkOp("/a", "/new"), impl.Answer{Code: impl.ErrFull})
	x = x.want(t, "a cut makes room", cutOp("/b", 0), impl.Answer{})
	x = x.want(t, "a cut makes room", writeOp("/c", 7, 9), impl.Answer{})
	x.want(t, "a cut makes room", readOp("/c", 7), impl.Answer{Value: 9})
}

// As many pages as things may have, however few addresses there are.
func TestP13ModelsHaveRoom(t *testing.T) {
	m := impl.NewModel()
	for n := 1; n <= lastInode; n++ {
		path := "/" + nameOf(n)
		m, _ = modelDo(t, "made", m, makeOp(path))
		for page := mostPages - 1; page >= 0; page-- {
			after, a := modelDo(t, "written", m, writeOp(path, page, 1000*n+page))
			if a.Code != impl.OK {
				t.Fatalf("page %d of %q: the code is %d", page, path, a.Code)
			}
			m = after
		}
	}
	for n := 1; n <= lastInode; n++ {
		for page := range mostPages {
			if _, a := modelDo(t, "read", m, readOp("/"+nameOf(n), page)); a.Value != 1000*n+page {
				t.Errorf("page %d of %q is %v", page, nameOf(n), a)
			}
		}
	}
	for _, o := range []impl.Op{makeOp("/x"), mkdirOp("/x")} {
		if _, a := modelDo(t, "no thing is free", m, o); a.Code != impl.ErrFull {
			t.Errorf("%+v has the code %d", o, a.Code)
		}
	}
}

// What is cut off, or of a file that is gone, does not come back.
func TestP13PagesThatAreGone(t *testing.T) {
	x := newBoth()
	for _, o := range []impl.Op{makeOp("/a"), writeOp("/a", 0, 1), writeOp("/a", 7, 8), cutOp("/a", 0), writeOp("/a", 3, 4)} {
		x = x.want(t, "cut", o, impl.Answer{})
	}
	wantText(t, "cut", x.model, "/a file 1: 0 0 0 4")
	x = x.want(t, "longer", cutOp("/a", 8), impl.Answer{})
	wantText(t, "longer", x.model, "/a file 1: 0 0 0 4 0 0 0 0")
	for _, o := range []impl.Op{removeOp("/a"), mkdirOp("/a"), removeOp("/a"), makeOp("/b")} {
		x = x.want(t, "removed", o, impl.Answer{})
	}
	wantText(t, "another file", x.model, "/b file 1:")
	x = x.want(t, "longer", cutOp("/b", 2), impl.Answer{})
	wantText(t, "another file, longer", x.model, "/b file 1: 0 0")
}

func TestP13TextOfModels(t *testing.T) {
	wantText(t, "the root alone", impl.NewModel())
	wantText(t, "small", modelled(smallImage()),
		"/d dir", "/d/d dir", "/d/d/aaaaaa dir", "/d/d/e file 1:", "/d/g file 2: 1312 0 1000", "/f file 2: 1312 0 1000", "/zzzzzz file 1: 1335 1031 0 1313 1002 0 0 1314")
	wantText(t, "one file of no pages", modelWith(t, makeOp("/a")), "/a file 1:")
	wantText(t, "one directory", modelWith(t, mkdirOp("/a")), "/a dir")
	wantText(t, "the least word and the greatest", modelWith(t, makeOp("/a"), writeOp("/a", 0, 0), writeOp("/a", 1, impl.MaxWord-1)), "/a file 1: 0 1099511627775")
	wantText(t, "all pages", modelWith(t, makeOp("/a"), writeOp("/a", 7, 18)), "/a file 1: 0 0 0 0 0 0 0 18")
	// The names of a directory come ahead of a name that is longer than its own.
	wantText(t, "rising", modelWith(t, makeOp("/ab"), mkdirOp("/a"), makeOp("/b"), makeOp("/a/z"), linkOp("/b", "/a/b")),
		"/a dir", "/a/b file 2:", "/a/z file 1:", "/ab file 1:", "/b file 2:")
	for _, x := range rightModels() {
		wantText(t, x.name, x.model, textByHand(x.model)...)
	}
	d := &dice{state: 134}
	for n := range 300 {
		m := rollModel(d)
		wantText(t, fmt.Sprint("model ", n), m, textByHand(m)...)
	}
}

// Paths that are too long to be looked up are told, too.
func TestP13TextOfDeepModels(t *testing.T) {
	var want []string
	for n := 1; n <= lastInode; n++ {
		want = append(want, strings.Repeat("/same", n)+" dir")
	}
	wantText(t, "a chain", modelled(chainImage()), want...)
	tree := modelled(treeImage())
	lines, _ := impl.ModelText(tree)
	for _, line := range []string{"/b/c/d/e/f/g/h/i/a file 4: 1003 0", "/b/c/d/e/f/g/h/i/j file 4: 1315", "/b/c/d/e/f/g/h/i dir", "/b/c/d/e/f/a file 1:"} {
		if !slices.Contains(lines, line) {
			t.Errorf("%q is not told: %q", line, lines)
		}
	}
	x := newBoth()
	for _, o := range []impl.Op{mkdirOp("/a"), mkdirOp("/a/b"), mkdirOp("/a/b/c"), mkdirOp("/a/b/c/d"), makeOp("/a/b/c/d/e"), writeOp("/a/b/c/d/e", 1, 5), mkdirOp("/x"), mkdirOp("/x/y"), mkdirOp("/x/y/z"), renameOp("/a", "/x/y/z/a")} {
		x = x.want(t, "deeper", o, impl.Answer{})
	}
	wantText(t, "deeper", x.model, "/x dir", "/x/y dir", "/x/y/z dir", "/x/y/z/a dir", "/x/y/z/a/b dir", "/x/y/z/a/b/c dir", "/x/y/z/a/b/c/d dir", "/x/y/z/a/b/c/d/e file 1: 0 5")
	x, a := x.do(t, "deeper", statOp("/x/y/z/a/b/c/d"))
	if a.Code != impl.ErrName {
		t.Errorf("a path of seven names has the code %d", a.Code)
	}
	x = x.want(t, "less deep", renameOp("/x/y/z/a/b/c", "/c"), impl.Answer{})
	x.want(t, "less deep", readOp("/c/d/e", 1), impl.Answer{Value: 5})
}

func TestP13SameWhereverThingsStand(t *testing.T) {
	d := &dice{state: 135}
	for _, x := range rightModels() {
		wantSame(t, x.name, x.model, x.model, true)
		for range 5 {
			other := moved(d, x.model)
			if !keepsModelRules(other) {
				t.Fatalf("%s: what is moved is not right", x.name)
			}
			wantSame(t, x.name+", elsewhere", x.model, other, true)
		}
	}
	small := modelled(smallImage())
	if other := moved(d, small); identical(small, other) {
		t.Error("nothing stands elsewhere")
	}
	// The same is made in another order, and by other ways.
	a := modelWith(t, makeOp("/a"), mkdirOp("/b"), makeOp("/b/c"), writeOp("/b/c", 0, 5), linkOp("/a", "/d"))
	b := modelWith(t, mkdirOp("/x"), mkdirOp("/y"), makeOp("/x/c"), renameOp("/x", "/b"), makeOp("/z"), linkOp("/z", "/a"), removeOp("/y"), writeOp("/b/c", 3, 7), cutOp("/b/c", 1), writeOp("/b/c", 0, 5), renameOp("/z", "/d"))
	wantSame(t, "made in another order", a, b, true)
	if identical(a, b) {
		t.Error("made in another order all stands where it stood")
	}
	// A page that was never written is as one that a nought was written on.
	wantSame(t, "noughts", modelWith(t, makeOp("/a"), cutOp("/a", 3)), modelWith(t, makeOp("/a"), writeOp("/a", 2, 0)), true)
	// Which names are of one file is not told.
	pairs := func(first, second string) impl.Model {
		return modelWith(t, makeOp("/a"), makeOp(second), linkOp("/a", first), linkOp(second, "/d"))
	}
	wantSame(t, "other pairs of names", pairs("/b", "/c"), pairs("/c", "/b"), true)
}

func TestP13OtherModels(t *testing.T) {
	small := modelled(smallImage())
	for _, x := range []namedModel{
		changedModel("a first page", func(m *impl.Model) { m.Things[1].Pages[0]++ }),
		changedModel("a page of 0", func(m *impl.Model) { m.Things[1].Pages[1] = 1 }),
		changedModel("a last page", func(m *impl.Model) { m.Things[15].Pages[7]-- }),
		changedModel("one page more", func(m *impl.Model) { m.Things[1].Pages = append(m.Things[1].Pages, 0) }),
		changedModel("a first page of an empty file", func(m *impl.Model) { m.Things[4].Pages = []int{0} }),
		changedModel("one page less", func(m *impl.Model) { m.Things[15].Pages = m.Things[15].Pages[:7] }),
		changedModel("no pages", func(m *impl.Model) { m.Things[15].Pages = nil }),
		changedModel("pages in another order", func(m *impl.Model) { slices.Reverse(m.Things[15].Pages) }),
		changedModel("the pages of two files", func(m *impl.Model) {
			m.Things[1].Pages, m.Things[4].Pages = m.Things[4].Pages, m.Things[1].Pages
		}),
		changedModel("a kind", func(m *impl.Model) { m.Things[4].Kind = impl.KindDir }),
		changedModel("the other kind", func(m *impl.Model) { m.Things[5].Kind = impl.KindFile }),
		changedModel("a name", func(m *impl.Model) { m.Dirents[23].Name = "zzzzz" }),
		changedModel("two names", func(m *impl.Model) { m.Dirents[0].Name, m.Dirents[1].Name = "d", "f" }),
		changedModel("a name in another directory", func(m *impl.Model) { m.Dirents[7].Dir = 2 }),
		changedModel("one name more", func(m *impl.Model) { addThingName(m, 4) }),
		changedModel("one name less", func(m *impl.Model) { m.Dirents[3], m.Things[1].Links = freeEntry(), 1 }),
		changedModel("a file less", func(m *impl.Model) { m.Dirents[5], m.Things[4] = freeEntry(), impl.Thing{} }),
		{"the root alone", impl.NewModel()},
	} {
		if !keepsModelRules(x.model) || !impl.ModelOK(x.model) {
			t.Errorf("%s: the model is not right", x.name)
		}
		wantSame(t, x.name, small, x.model, false)
	}
	// The same paths and pages: one file of two names, or two files.
	one := modelWith(t, makeOp("/a"), linkOp("/a", "/b"))
	two := modelWith(t, makeOp("/a"), makeOp("/b"))
	wantSame(t, "links", one, two, false)
}

// addThingName gives a thing one more name in the root.
func addThingName(m *impl.Model, child int) {
	m.Dirents[slices.Index(m.Dirents, freeEntry())] = impl.Dirent{Name: "more", Child: child}
	m.Things[child].Links++
}

// Alike are two models if and only if their texts are.
func TestP13RolledPairsOfModels(t *testing.T) {
	d := &dice{state: 136}
	count := map[bool]int{}
	for n := range 4000 {
		a := rollModel(d)
		b := moved(d, a)
		for range d.roll(3) {
			rollModelChange(d, &b)
		}
		if !keepsModelRules(b) {
			continue
		}
		want := slices.Equal(textByHand(a), textByHand(b))
		wantSame(t, fmt.Sprint("pair ", n), a, b, want)
		count[want]++
	}
	if count[true] < 300 || count[false] < 100 {
		t.Errorf("models were alike or not %v times", count)
	}
}

// What an answer has of the file system is in the model's, too: heat, steps and addresses are not.
func TestP13StepsAndHeatAreNotInTheModel(t *testing.T) {
	d := &dice{state: 137}
	x := newBoth()
	for step := range 120 {
		where := fmt.Sprint("step ", step)
		o := rollOp(d, imageOfModel(x.model))
		f := startOp(t, where, x.fs, o)
		for range d.roll(len(f.Todo) + 1) {
			f = steppedByHand(t, f, 1)
		}
		f, a := takeAnswer(t, where, finishFs(t, where, f))
		m, b := modelDo(t, where, x.model, o)
		if !sameAnswer(a, b) || !identical(modelOf(t, where, f.Devices), m) {
			t.Fatalf("%s: %+v answers %v, its model %v, or the files are others", where, o, a, b)
		}
		f.Heat = rollHeat(d, 4)
		x = both{f, m}
	}
}

// Behind a crash and a recovery what is there is the model, or the model behind what was in the midst.
func TestP13ModelsOfWhatIsRecovered(t *testing.T) {
	d := &dice{state: 138}
	for _, o := range opsOfEachKind() {
		x := bothOf(t, "small", resting(smallImage()))
		f := startOp(t, "small", x.fs, o)
		behind, _ := modelDo(t, "small", x.model, o)
		for n := 0; ; n++ {
			r, code := impl.Recover(crashedByHand(f.Devices, rollKeeps(d)))
			now, modelCode := impl.ModelOf(r.Devices)
			if code != impl.OK || modelCode != impl.OK || !identical(now, x.model) && !identical(now, behind) {
				t.Fatalf("%+v, %d steps: what is there is neither ahead nor behind", o, n)
			}
			if len(f.Todo) == 0 {
				break
			}
			f = steppedByHand(t, f, 1)
		}
		wantSame(t, fmt.Sprintf("%+v, finished", o), modelOf(t, "finished", f.Devices), behind, true)
	}
}
