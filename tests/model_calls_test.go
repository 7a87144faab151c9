package tests

import (
	"cmp"
	"fmt"
	"math"
	"reflect"
	"slices"
	"strings"
	"testing"

	"loop.example/g00410/impl"
)

// wantModelCode asks for a code of the answer, which is then a code alone, and for the model as it was; the file system of the same files is to answer alike, but for a write without room.
func wantModelCode(t *testing.T, where string, x both, o impl.Op, code int) {
	t.Helper()
	where = fmt.Sprintf("%s, %.60q", where, fmt.Sprint(o))
	if code != impl.OK {
		want := []reflect.Value{reflect.ValueOf(x.model), reflect.ValueOf(impl.Answer{Code: code}), reflect.ValueOf(impl.OK)}
		if answers := modelDoCall(x.model, o).answers(); !allAlike(answers, want, false) {
			t.Errorf("%s: ModelDo has the answer %v, code %v, not %d, or changes the model", where, answers[1], answers[2], code)
		}
	}
	_, a, got := impl.ModelDo(x.model, o)
	_, b, other := impl.DoOp(x.fs, o)
	if a.Code != code || got != impl.OK || other != impl.OK {
		t.Errorf("%s: ModelDo has the answer %v, code %d, not %d", where, a, got, code)
	}
	if full := o.Kind == impl.OpWrite && b.Code == impl.ErrFull; !full && !sameAnswer(a, b) {
		t.Errorf("%s: ModelDo has the answer %v, DoOp %v", where, a, b)
	}
}

func TestP1RightModels(t *testing.T) {
	for _, x := range rightModels() {
		if !impl.ModelOK(x.model) || !keepsModelRules(x.model) {
			t.Errorf("%s: ModelOK is false", x.name)
		}
		for _, c := range modelCalls(x.model, listOp("/")) {
			wantCode(t, x.name, c, impl.OK)
		}
	}
}

// That a model is not right is told whatever is asked of it; what is told of the operation beside it does not count.
func TestP1WrongModels(t *testing.T) {
	for _, x := range wrongModels() {
		if impl.ModelOK(x.model) || keepsModelRules(x.model) {
			t.Errorf("%s: ModelOK is true", x.name)
		}
		for _, o := range []impl.Op{listOp("/"), writeOp("/f", 0, 5), makeOp("/f"), removeOp("/"), renameOp("x", ""), {}} {
			for _, c := range modelCalls(x.model, o) {
				wantCode(t, x.name, c, impl.ErrBad)
			}
		}
	}
	for _, o := range append(smallOps(), noOps()...) {
		wantCode(t, "a link too many", modelDoCall(modelled(wronged(smallImage())), o), impl.ErrBad)
		wantCode(t, "nothing", modelDoCall(impl.Model{}, o), impl.ErrBad)
	}
	wrong := wrongModels()
	for k, x := range wrong {
		wantCode(t, x.name+", and another", sameModelCall(x.model, wrong[(k+7)%len(wrong)].model), impl.ErrBad)
	}
}

// Each thing that an image is asked for is among what makes a model wrong.
func TestP1WrongModelsOfEachRule(t *testing.T) {
	var names []string
	for _, x := range wrongModels() {
		names = append(names, x.name)
	}
	for _, name := range []string{
		"one inode too few", "one inode too many", "one entry too few", "one entry too many",
		"a free one with a Size", "a free one with a link", "a directory with a Size", "a directory of two links", "a file without a link", "a file of no Size", "a file of no number of links", "no kind",
		"a root that is a file", "a root that is free", "a root of two links",
		"a free one with a directory", "a free one with a name", "zero", "no short name", "one that leads to the root", "no inode that it leads to", "one that leads to a free inode", "one in a file", "a name twice in the root",
		"a link more than entries", "a link less than entries", "a directory of two entries", "a directory in itself", "three directories in a ring",
	} {
		if !slices.Contains(names, name) {
			t.Errorf("no model is wrong for this: %s", name)
		}
	}
	// What an image is asked for of its addresses is not asked of a model.
	for _, x := range wrongImages() {
		if strings.HasPrefix(x.name, "a page twice") || strings.HasPrefix(x.name, "a sector in two files") {
			if m := modelled(x.image); !impl.ModelOK(m) {
				t.Errorf("%s: ModelOK is false", x.name)
			}
		}
	}
}

func TestP1RolledModels(t *testing.T) {
	d := &dice{state: 139}
	count := map[bool]int{}
	for n := range 6000 {
		m := rollModel(d)
		for range 1 + d.roll(3) {
			rollModelChange(d, &m)
		}
		want := keepsModelRules(m)
		if got := impl.ModelOK(m); got != want {
			t.Fatalf("model %d: ModelOK is %v: %v", n, got, m)
		}
		if !want {
			wantCode(t, fmt.Sprint("model ", n), modelTextCall(m), impl.ErrBad)
		}
		count[want]++
	}
	if count[true] < 500 || count[false] < 500 {
		t.Errorf("the models were right or wrong %v times", count)
	}
}

func TestP1ModelsOfWrongDevices(t *testing.T) {
	for _, h := range wrongHosts() {
		wantCode(t, h.name, modelOfCall(h.devices), impl.ErrBad)
		wantCode(t, h.name+", a store and a write", modelOfCall(unsure(h.devices, []impl.Store{{At: 3}}, []impl.Sector{{At: 3}})), impl.ErrBad)
	}
	for _, h := range roomyHosts() {
		wantCode(t, h.name, modelOfCall(h.devices), impl.OK)
		for _, x := range unsureParts(h.devices) {
			code := impl.OK
			if m, ok := readByHand(wordsByHand(x.devices.Pm)); !ok || !keepsTheRules(m) {
				code = impl.ErrBad
			}
			wantCode(t, h.name+", "+x.name, modelOfCall(x.devices), code)
		}
	}
	// What steps may yet bring about, or a journal, is asked for nothing.
	for _, x := range wrongJournals() {
		wantCode(t, x.name, modelOfCall(x.devices), impl.OK)
	}
	for _, x := range wrongBehind() {
		_, ok := readByHand(x.devices.Pm.Words)
		want := impl.ErrBad
		if ok {
			want = impl.OK
		}
		wantCode(t, x.name, modelOfCall(x.devices), want)
	}
}

func TestP1NoOperationsOfModels(t *testing.T) {
	for _, x := range rightModels() {
		for _, o := range noOps() {
			wantCode(t, fmt.Sprintf("%s, %.40q", x.name, fmt.Sprint(o)), modelDoCall(x.model, o), impl.ErrBad)
		}
	}
	small := modelled(smallImage())
	for _, kind := range append(noIndexes(impl.OpList), 0, 1, 2, 3, 4, 5, 6, 7, 8, 9, 10) {
		usesTo, usesPage, usesValue, ok := usesByHand(kind)
		for _, to := range []string{"", "/x", "x"} {
			for _, page := range []int{0, 1, -1, math.MinInt} {
				for _, value := range []int{0, 1, impl.MaxWord} {
					o := impl.Op{Kind: kind, Path: "/f", To: to, Page: page, Value: value}
					code := impl.ErrBad
					if ok && (usesTo || to == "") && (usesPage || page == 0) && (usesValue || value == 0) {
						code = impl.OK
					}
					wantCode(t, fmt.Sprintf("%+v", o), modelDoCall(small, o), code)
				}
			}
		}
	}
	most := strings.Repeat("a", impl.MaxText)
	for kind := impl.OpMake; kind <= impl.OpList; kind++ {
		wantCode(t, "as long as it may be", modelDoCall(small, impl.Op{Kind: kind, Path: most}), impl.OK)
		wantCode(t, "too long", modelDoCall(small, impl.Op{Kind: kind, Path: most + "a"}), impl.ErrBad)
		wantCode(t, "too long", modelDoCall(small, impl.Op{Kind: kind, Path: "/f", To: most + "a"}), impl.ErrBad)
	}
}

// Each two faults at once: the path's, that it is a directory, and the numbers; that there is no room is none of a model's.
func TestP1CodesOfPagesInModels(t *testing.T) {
	hosts := roomyHosts()
	for _, h := range []roomyHost{hosts[0], hosts[3], hosts[len(hosts)-1]} {
		x := bothOf(t, h.name, impl.Fs{Devices: h.devices, Heat: evenHeat(1)})
		for _, p := range filePaths() {
			for _, n := range []int{-1, 0, 2, 3, 7, 8, 9, math.MinInt, math.MaxInt} {
				read, cut, write := impl.OK, impl.OK, impl.OK
				if n < 0 || n >= sizesOfSmall()[p.path] {
					read = impl.ErrRange
				}
				if n < 0 || n > 8 {
					cut = impl.ErrRange
				}
				if n < 0 || n > 7 {
					write = impl.ErrRange
				}
				wantModelCode(t, h.name, x, readOp(p.path, n), cmp.Or(p.code, read))
				wantModelCode(t, h.name, x, cutOp(p.path, n), cmp.Or(p.code, cut))
				wantModelCode(t, h.name, x, writeOp(p.path, n, 5), cmp.Or(p.code, write))
				wantModelCode(t, h.name, x, writeOp(p.path, n, impl.MaxWord), cmp.Or(p.code, impl.ErrRange))
			}
			for _, v := range []int{-1, impl.MaxWord, math.MinInt, math.MaxInt} {
				wantModelCode(t, h.name, x, writeOp(p.path, 0, v), cmp.Or(p.code, impl.ErrRange))
			}
		}
	}
}

func TestP1CodesOfLooksInModels(t *testing.T) {
	x := bothOf(t, "small", resting(smallImage()))
	files := []string{"/f", "/d/g", "/d/d/e", "/zzzzzz"}
	for _, p := range anyPaths() {
		wantModelCode(t, "small", x, statOp(p.path), p.code)
		if slices.Contains(files, p.path) {
			p.code = impl.ErrNoDir
		}
		wantModelCode(t, "small", x, listOp(p.path), p.code)
	}
}

// Each two faults at once: those of both paths, and that no inode or no entry is free, which a model is told of too.
func TestP1CodesOfNamesInModels(t *testing.T) {
	for _, m := range roomyImages() {
		x := bothOf(t, m.name, resting(m.image))
		for _, p := range newNames() {
			wantModelCode(t, m.name, x, makeOp(p.path), cmp.Or(p.code, m.inode, m.entry))
			wantModelCode(t, m.name, x, mkdirOp(p.path), cmp.Or(p.code, m.inode, m.entry))
			wantModelCode(t, m.name, x, linkOp("/zzzzzz", p.path), cmp.Or(p.code, m.entry))
			wantModelCode(t, m.name, x, linkOp("/d", p.path), impl.ErrDir)
			wantModelCode(t, m.name, x, linkOp("/nobody", p.path), impl.ErrNone)
			wantModelCode(t, m.name, x, renameOp("/zzzzzz", p.path), p.code)
			wantModelCode(t, m.name, x, renameOp("/nobody", p.path), impl.ErrNone)
		}
		for _, p := range oldNames() {
			code, link := p.code, cmp.Or(p.code, m.entry)
			if p.path == "/d" || p.path == "/d/d" {
				code = impl.ErrNotEmpty
			}
			wantModelCode(t, m.name, x, removeOp(p.path), code)
			wantModelCode(t, m.name, x, renameOp(p.path, "/new"), p.code)
			if p.path == "/" || p.code == impl.OK && m.image.Inodes[pathsByHand(m.image)[p.path]].Kind == impl.KindDir {
				link = impl.ErrDir
			}
			wantModelCode(t, m.name, x, linkOp(p.path, "/new"), link)
		}
		wantModelCode(t, m.name, x, renameOp("/d", "/d/d/new"), impl.ErrLoop)
		wantModelCode(t, m.name, x, renameOp("/d", "/d/d"), impl.ErrTwice)
	}
}

func TestP1NoPathsInModels(t *testing.T) {
	x := bothOf(t, "small", resting(smallImage()))
	for _, text := range noPaths() {
		for _, o := range []impl.Op{makeOp(text), mkdirOp(text), removeOp(text), linkOp(text, "/x"), linkOp("/f", text), renameOp(text, text), renameOp("/f", text), writeOp(text, 0, 5), writeOp(text, 8, -1), cutOp(text, 9), readOp(text, 9), statOp(text), listOp(text)} {
			wantModelCode(t, "small", x, o, impl.ErrName)
		}
	}
}

func TestP1ModelsUntouched(t *testing.T) {
	calls := []asked{ask("NewModel", impl.NewModel)}
	for _, x := range rightModels() {
		calls = append(calls, ask("ModelOK", impl.ModelOK, x.model))
		calls = append(calls, modelCalls(x.model, writeOp("/f", 0, 5))...)
		calls = append(calls, modelDoCall(x.model, writeOp("/a", 7, 5)), modelDoCall(x.model, listOp("/")), modelDoCall(x.model, makeOp("/new")))
	}
	for _, x := range wrongModels() {
		calls = append(calls, ask("ModelOK", impl.ModelOK, x.model))
		calls = append(calls, modelCalls(x.model, writeOp("/f", 0, 5))...)
	}
	wantPromise1(t, "models", calls)
}

func TestP1DoneModelsUntouched(t *testing.T) {
	small := modelled(smallImage())
	var calls []asked
	for _, o := range append(smallOps(), noOps()[:6]...) {
		calls = append(calls, modelDoCall(small, o))
		// What a call answered is an argument like any other.
		if after, _, code := impl.ModelDo(small, o); code == impl.OK {
			calls = append(calls, modelDoCall(after, writeOp("/f", 1, 6)), modelTextCall(after), sameModelCall(small, after))
		}
	}
	wantPromise1(t, "done", calls)
}

func TestP1ModelsOfDevicesUntouched(t *testing.T) {
	var calls []asked
	for _, x := range rightSystems() {
		calls = append(calls, modelOfCall(x.fs.Devices))
	}
	for _, h := range wrongHosts() {
		calls = append(calls, modelOfCall(h.devices))
	}
	for _, x := range unsureParts(housed(smallImage())) {
		calls = append(calls, modelOfCall(x.devices))
	}
	wantPromise1(t, "devices", calls)
}
