package tests

import (
	"cmp"
	"fmt"
	"math"
	"reflect"
	"slices"
	"strings"
	"testing"

	"loop.example/g00410/impl"
)

func readCall(d impl.Devices, path string, page int) asked {
	return ask("ReadPage", impl.ReadPage, d, path, page)
}

func pagesCall(d impl.Devices, path string) asked { return ask("PagesOf", impl.PagesOf, d, path) }

func writeCall(d impl.Devices, path string, page, value int) asked {
	return ask("PlanWrite", impl.PlanWrite, d, path, page, value)
}

func cutCall(m impl.Image, path string, size int) asked {
	return ask("PlanCut", impl.PlanCut, m, path, size)
}

func opCall(d impl.Devices, o impl.Op) asked { return ask("PlanOp", impl.PlanOp, d, o) }

// hostCalls are all calls of chapter 9 that are asked of devices and a path.
func hostCalls(d impl.Devices, path string, page, value int) []asked {
	return []asked{readCall(d, path, page), pagesCall(d, path), writeCall(d, path, page, value)}
}

// wantAnswerCode asks for an answer that is a code alone, and for no steps.
func wantAnswerCode(t *testing.T, where string, d impl.Devices, o impl.Op, code int) {
	t.Helper()
	answers := opCall(d, o).answers()
	want := []reflect.Value{reflect.ValueOf([]impl.Micro(nil)), reflect.ValueOf(impl.Answer{Code: code}), reflect.ValueOf(impl.OK)}
	if !allAlike(answers, want, false) {
		t.Errorf("%s: PlanOp of %.60q has the answer %v, code %v, not %d, or steps", where, fmt.Sprint(o), answers[1], answers[2], code)
	}
}

// wantOpCode asks for a code of the answer, be it OK or not.
func wantOpCode(t *testing.T, where string, d impl.Devices, o impl.Op, code int) {
	t.Helper()
	if code != impl.OK {
		wantAnswerCode(t, where, d, o, code)
		return
	}
	if _, a, got := impl.PlanOp(d, o); a.Code != impl.OK || got != impl.OK {
		t.Errorf("%s: PlanOp of %+v has the answer %v, code %d", where, o, a, got)
	}
}

func TestP1HostsOfPages(t *testing.T) {
	for _, h := range roomyHosts() {
		m := imageByHand(t, h.name, h.devices)
		for path, size := range sizesOfSmall() {
			if i, code := fileByHand(m, path); code != impl.OK || m.Inodes[i].Size != size {
				t.Errorf("%s: %q is another file", h.name, path)
			}
		}
		if free := slices.ContainsFunc(everyAddress(), func(entry int) bool { return !isMapped(m, entry) }); free != (h.write == impl.OK) {
			t.Errorf("%s: that an address is free is %v", h.name, free)
		}
	}
	for _, h := range wrongHosts() {
		_, code := impl.ReadImage(h.devices.Pm)
		if code == impl.OK && impl.DevicesOK(h.devices) {
			t.Errorf("%s: the devices have a right image", h.name)
		}
	}
}

// Each two faults at once: the path's, that it is a directory, and the page.
func TestP1CodesOfReadPage(t *testing.T) {
	for _, h := range roomyHosts() {
		for _, x := range filePaths() {
			for _, page := range numbersToTry() {
				code := x.code
				if code == impl.OK && (page < 0 || page >= sizesOfSmall()[x.path]) {
					code = impl.ErrRange
				}
				wantCode(t, fmt.Sprintf("%s, %.20q, %d", h.name, x.path, page), readCall(h.devices, x.path, page), code)
				wantOpCode(t, h.name, h.devices, readOp(x.path, page), code)
			}
			wantCode(t, fmt.Sprintf("%s, %.20q", h.name, x.path), pagesCall(h.devices, x.path), x.code)
		}
	}
}

// Each two faults at once: the path's, that it is a directory, the page or the value, and that there is no room.
func TestP1CodesOfPlanWrite(t *testing.T) {
	for _, h := range roomyHosts() {
		for _, x := range filePaths() {
			for _, page := range []int{-1, 0, 3, 7, 8, math.MinInt, math.MaxInt} {
				for _, value := range []int{-1, 0, 77, impl.MaxWord - 1, impl.MaxWord, math.MinInt, math.MaxInt} {
					numbers := impl.OK
					if page < 0 || page > 7 || value < 0 || value >= impl.MaxWord {
						numbers = impl.ErrRange
					}
					code := cmp.Or(x.code, numbers, h.write)
					wantCode(t, fmt.Sprintf("%s, %.20q, %d, %d", h.name, x.path, page, value), writeCall(h.devices, x.path, page, value), code)
					wantOpCode(t, h.name, h.devices, writeOp(x.path, page, value), code)
				}
			}
		}
		for _, n := range numbersToTry() {
			page, value := h.write, h.write
			if n < 0 || n > 7 {
				page = impl.ErrRange
			}
			if n < 0 || n >= impl.MaxWord {
				value = impl.ErrRange
			}
			wantCode(t, fmt.Sprint(h.name, ", page ", n), writeCall(h.devices, "/f", n, 5), page)
			wantCode(t, fmt.Sprint(h.name, ", value ", n), writeCall(h.devices, "/f", 5, n), value)
		}
	}
}

// Each two faults at once: the path's, that it is a directory, and the size; a cut needs no room.
func TestP1CodesOfPlanCut(t *testing.T) {
	for _, h := range roomyHosts() {
		m := imageByHand(t, h.name, h.devices)
		for _, x := range filePaths() {
			for _, size := range numbersToTry() {
				code := x.code
				if code == impl.OK && (size < 0 || size > 8) {
					code = impl.ErrRange
				}
				wantCode(t, fmt.Sprintf("%s, %.20q, %d", h.name, x.path, size), cutCall(m, x.path, size), code)
				wantOpCode(t, h.name, h.devices, cutOp(x.path, size), code)
			}
		}
	}
}

func TestP1CodesOfLooks(t *testing.T) {
	files := []string{"/f", "/d/g", "/d/d/e", "/zzzzzz"}
	for _, h := range roomyHosts() {
		for _, x := range anyPaths() {
			wantOpCode(t, h.name, h.devices, statOp(x.path), x.code)
			if slices.Contains(files, x.path) {
				x.code = impl.ErrNoDir
			}
			wantOpCode(t, h.name, h.devices, listOp(x.path), x.code)
		}
	}
}

// The codes of a plan of names are the answer's, and there are no steps then.
func TestP1CodesOfNamesInOperations(t *testing.T) {
	for _, m := range roomyImages() {
		d := housed(m.image)
		for _, x := range newNames() {
			for _, o := range []impl.Op{makeOp(x.path), mkdirOp(x.path)} {
				wantOpCode(t, m.name, d, o, cmp.Or(x.code, m.inode, m.entry))
			}
			wantOpCode(t, m.name, d, linkOp("/zzzzzz", x.path), cmp.Or(x.code, m.entry))
			wantOpCode(t, m.name, d, linkOp("/d", x.path), impl.ErrDir)
			wantOpCode(t, m.name, d, renameOp("/zzzzzz", x.path), x.code)
			wantOpCode(t, m.name, d, renameOp("/nobody", x.path), impl.ErrNone)
		}
		for _, x := range oldNames() {
			code := x.code
			if x.path == "/d" || x.path == "/d/d" {
				code = impl.ErrNotEmpty
			}
			wantOpCode(t, m.name, d, removeOp(x.path), code)
			wantOpCode(t, m.name, d, renameOp(x.path, "/new"), x.code)
		}
		wantOpCode(t, m.name, d, renameOp("/d", "/d/d/new"), impl.ErrLoop)
	}
}

func smallOps() []impl.Op {
	list := []impl.Op{makeOp("/new"), makeOp("/f"), mkdirOp("/new"), mkdirOp("/"), removeOp("/f"), removeOp("/d"), removeOp("x"), linkOp("/f", "/new"), linkOp("/d", "/new"), linkOp("/f", "/f"), renameOp("/d", "/new"), renameOp("/d", "/d/x"), renameOp("/f", "")}
	for _, path := range []string{"/f", "/d/d/e", "/zzzzzz", "/d", "/", "/nobody", "/f/x", "", "//", "/d/"} {
		list = append(list, statOp(path), listOp(path))
		for _, n := range []int{-1, 0, 2, 3, 7, 8, 9} {
			list = append(list, readOp(path, n), cutOp(path, n), writeOp(path, n, 5))
		}
		list = append(list, writeOp(path, 0, -1), writeOp(path, 8, impl.MaxWord), writeOp(path, 0, impl.MaxWord-1))
	}
	return list
}

// That there is no right image is told ahead of all but a text that is too long.
func TestP1PagesOfWrongHosts(t *testing.T) {
	paths := []string{"/f", "/zzzzzz", "/d", "/", "/nobody", "/f/x", "", "/f/", strings.Repeat("/a", impl.MaxText/2)}
	for _, h := range wrongHosts() {
		for _, path := range paths {
			for _, c := range append(hostCalls(h.devices, path, 0, 5), hostCalls(h.devices, path, 8, -1)...) {
				wantCode(t, fmt.Sprintf("%s, %.20q", h.name, path), c, impl.ErrBad)
			}
		}
		for _, c := range hostCalls(h.devices, longTexts()[0], 8, -1) {
			wantCode(t, h.name+", too long", c, impl.ErrLong)
		}
		for _, o := range []impl.Op{makeOp("/new"), mkdirOp("/f"), removeOp("/f"), linkOp("/f", "/new"), renameOp("/f", "/"), writeOp("/f", 0, 5), cutOp("/f", 9), readOp("/f", 0), statOp("/"), listOp("/"), {}, {Kind: 11}, statOp(longTexts()[0])} {
			wantCode(t, h.name, opCall(h.devices, o), impl.ErrBad)
		}
	}
	for _, o := range smallOps() {
		wantCode(t, "a link too many", opCall(housed(wronged(smallImage())), o), impl.ErrBad)
		wantCode(t, "a block device without sectors", opCall(impl.Devices{Pm: housed(smallImage()).Pm}, o), impl.ErrBad)
	}
}

func TestP1CutsOfWrongImages(t *testing.T) {
	for _, m := range wrongImages() {
		for _, path := range []string{"/f", "/d", "/", "/nobody", "/f/x", "", "/f/"} {
			for _, size := range []int{0, 1, 8, 9, -1} {
				wantCode(t, m.name, cutCall(m.image, path, size), impl.ErrBad)
			}
		}
		wantCode(t, m.name, cutCall(m.image, longTexts()[0], 9), impl.ErrLong)
	}
}

func TestP1PagesOfNoPaths(t *testing.T) {
	for _, h := range []roomyHost{roomyHosts()[0], roomyHosts()[len(roomyHosts())-1]} {
		m := imageByHand(t, h.name, h.devices)
		for _, text := range noPaths() {
			where := fmt.Sprintf("%s, %.20q", h.name, text)
			calls := append(hostCalls(h.devices, text, 0, 5), hostCalls(h.devices, text, -1, impl.MaxWord)...)
			for _, c := range append(calls, cutCall(m, text, 0), cutCall(m, text, 9)) {
				wantCode(t, where, c, impl.ErrName)
			}
			for _, o := range []impl.Op{makeOp(text), mkdirOp(text), removeOp(text), linkOp(text, "/x"), linkOp("/f", text), renameOp(text, text), renameOp("/f", text), writeOp(text, 0, 5), writeOp(text, 8, -1), cutOp(text, 9), readOp(text, 9), statOp(text), listOp(text)} {
				wantAnswerCode(t, where, h.devices, o, impl.ErrName)
			}
		}
	}
}

// That a text is too long is told ahead of all else; within an operation it makes that none.
func TestP1PagesOfLongTexts(t *testing.T) {
	right, wrong := housed(smallImage()), housed(wronged(smallImage()))
	for _, long := range longTexts() {
		for _, d := range []impl.Devices{right, wrong, housed(packed(0, 0)), {}} {
			for _, c := range append(hostCalls(d, long, 0, 5), hostCalls(d, long, -1, impl.MaxWord)...) {
				wantCode(t, "too long", c, impl.ErrLong)
			}
			for _, o := range []impl.Op{makeOp(long), mkdirOp(long), removeOp(long), linkOp(long, "/x"), linkOp("/f", long), linkOp(long, long), renameOp("/f", long), renameOp(long, "/x"), writeOp(long, 0, 5), cutOp(long, 0), readOp(long, 0), statOp(long), listOp(long)} {
				wantCode(t, "too long", opCall(d, o), impl.ErrBad)
			}
		}
		for _, m := range []impl.Image{smallImage(), wronged(smallImage()), {}} {
			for _, size := range []int{0, 9} {
				wantCode(t, "too long", cutCall(m, long, size), impl.ErrLong)
			}
		}
	}
}

// usesByHand are what each kind of operation has a use for beside its path.
func usesByHand(kind int) (to, page, value, ok bool) {
	uses := map[int]string{1: "", 2: "", 3: "", 4: "to", 5: "to", 6: "page value", 7: "page", 8: "page", 9: "", 10: ""}
	u, ok := uses[kind]
	return strings.Contains(u, "to"), strings.Contains(u, "page"), strings.Contains(u, "value"), ok
}

func wantOperation(t *testing.T, d impl.Devices, o impl.Op, want bool) {
	t.Helper()
	if got := impl.OpOK(o); got != want {
		t.Errorf("OpOK(%.80q) is %v", fmt.Sprintf("%+v", o), got)
	}
	_, _, code := impl.PlanOp(d, o)
	if want && code != impl.OK || !want && code != impl.ErrBad {
		t.Errorf("PlanOp of %.80q has the code %d", fmt.Sprintf("%+v", o), code)
	}
	if !want {
		wantCode(t, "no operation", opCall(d, o), impl.ErrBad)
	}
}

// What an operation has a use for may be anything: the answer tells what is wrong about it. The rest is zero.
func TestP1Operations(t *testing.T) {
	d := housed(smallImage())
	kinds := append(noIndexes(impl.OpList), 0, 1, 2, 3, 4, 5, 6, 7, 8, 9, 10)
	for _, kind := range kinds {
		usesTo, usesPage, usesValue, ok := usesByHand(kind)
		for _, path := range []string{"", "/", "/f", "/x", "x"} {
			for _, to := range []string{"", "/", "/x", "x", "\x00"} {
				for _, page := range []int{0, 1, -1, 8, math.MinInt, math.MaxInt} {
					for _, value := range []int{0, 1, -1, impl.MaxWord, math.MinInt} {
						want := ok && (usesTo || to == "") && (usesPage || page == 0) && (usesValue || value == 0)
						wantOperation(t, d, impl.Op{Kind: kind, Path: path, To: to, Page: page, Value: value}, want)
					}
				}
			}
		}
	}
}

func TestP1OperationsOfLongTexts(t *testing.T) {
	d := housed(smallImage())
	most := strings.Repeat("a", impl.MaxText)
	for kind := impl.OpMake; kind <= impl.OpList; kind++ {
		usesTo, _, _, _ := usesByHand(kind)
		wantOperation(t, d, impl.Op{Kind: kind, Path: most}, true)
		wantOperation(t, d, impl.Op{Kind: kind, Path: most + "a"}, false)
		wantOperation(t, d, impl.Op{Kind: kind, Path: "/f", To: most}, usesTo)
		wantOperation(t, d, impl.Op{Kind: kind, Path: most, To: most}, usesTo)
		wantOperation(t, d, impl.Op{Kind: kind, Path: "/f", To: most + "a"}, false)
		wantOperation(t, d, impl.Op{Kind: kind, Path: most + "a", To: most}, false)
	}
}

// dataCalls are all calls of chapter 9.
func dataCalls(d impl.Devices, m impl.Image, o impl.Op) []asked {
	return append(hostCalls(d, o.Path, o.Page, o.Value), cutCall(m, o.Path, o.Page), ask("OpOK", impl.OpOK, o), opCall(d, o))
}

func TestP1PagesUntouched(t *testing.T) {
	hosts := []namedPair{{"the root alone", impl.NewDevices()}, {"tree", housed(treeImage())}, {"full", housed(fullImage())}}
	for _, h := range roomyHosts() {
		hosts = append(hosts, h.namedPair)
	}
	busy := unsure(housed(smallImage()), []impl.Store{{At: 312, Value: 5}, {At: 97, Value: 4, Flushed: true}}, []impl.Sector{{At: 0, Value: 6}})
	hosts = append(hosts, namedPair{"busy", busy}, namedPair{"a link too many", housed(wronged(smallImage()))}, namedPair{"nothing", impl.Devices{}}, namedPair{"noughts", zeroPair()})
	for _, h := range hosts {
		m, _ := impl.ReadImage(h.devices.Pm)
		var calls []asked
		for _, o := range append(smallOps(), impl.Op{}, impl.Op{Kind: 11, Path: "/f"}, impl.Op{Kind: impl.OpStat, Path: "/f", Page: 1}) {
			calls = append(calls, dataCalls(h.devices, m, o)...)
		}
		wantPromise1(t, h.name, calls)
	}
}

func TestP1PagesOfWrongArgumentsUntouched(t *testing.T) {
	var calls []asked
	for _, h := range wrongHosts() {
		calls = append(calls, dataCalls(h.devices, smallImage(), writeOp("/f", 0, 5))...)
	}
	for _, m := range wrongImages() {
		calls = append(calls, cutCall(m.image, "/f", 1))
	}
	for _, text := range append(noPaths(), longTexts()...) {
		calls = append(calls, dataCalls(housed(smallImage()), smallImage(), writeOp(text, 0, 5))...)
	}
	wantPromise1(t, "wrong devices, images and texts", calls)
}
