package tests

import (
	"fmt"
	"maps"
	"reflect"
	"slices"
	"strings"
	"testing"

	"loop.example/g00410/impl"
)

func modelOfCall(d impl.Devices) asked { return ask("ModelOf", impl.ModelOf, d) }

func modelDoCall(m impl.Model, o impl.Op) asked { return ask("ModelDo", impl.ModelDo, m, o) }

func modelTextCall(m impl.Model) asked { return ask("ModelText", impl.ModelText, m) }

func sameModelCall(a, b impl.Model) asked { return ask("SameModel", impl.SameModel, a, b) }

// modelCalls are all calls with a code that take a model, beside one that is right.
func modelCalls(m impl.Model, o impl.Op) []asked {
	right := impl.NewModel()
	return []asked{modelDoCall(m, o), modelTextCall(m), sameModelCall(m, right), sameModelCall(right, m), sameModelCall(m, m)}
}

// modelByHand is an image's model, the pages of its files being told by their inodes.
func modelByHand(m impl.Image, contents map[int][]int) impl.Model {
	model := impl.Model{Dirents: slices.Clone(m.Dirents)}
	for i, x := range m.Inodes {
		model.Things = append(model.Things, impl.Thing{Kind: x.Kind, Links: x.Links, Pages: slices.Clone(contents[i])})
	}
	return model
}

// modelled is the model of an image that is housed.
func modelled(m impl.Image) impl.Model {
	return modelByHand(m, contentsByHand(m, housed(m)))
}

// imageOfModel has all pages nowhere.
func imageOfModel(m impl.Model) impl.Image {
	image := impl.Image{Dirents: slices.Clone(m.Dirents)}
	for _, x := range m.Things {
		image.Inodes = append(image.Inodes, impl.Inode{Kind: x.Kind, Size: len(x.Pages), Links: x.Links})
	}
	return image
}

func contentsOfModel(m impl.Model) map[int][]int {
	contents := map[int][]int{}
	for i, x := range m.Things {
		contents[i] = slices.Clone(x.Pages)
	}
	return contents
}

func cloneModel(m impl.Model) impl.Model {
	return modelByHand(imageOfModel(m), contentsOfModel(m))
}

// identical asks for where things and entries stand, too, unlike SameModel.
func identical(a, b impl.Model) bool {
	return alike(reflect.ValueOf(a), reflect.ValueOf(b), false)
}

// keepsModelRules tells a second time which models are right.
func keepsModelRules(m impl.Model) bool {
	for _, x := range m.Things {
		for _, word := range x.Pages {
			if word < 0 || word > 1099511627775 {
				return false
			}
		}
	}
	return keepsTheRules(imageOfModel(m))
}

// textByHand tells a right model a second time.
func textByHand(m impl.Model) []string {
	var lines []string
	paths := pathsByHand(imageOfModel(m))
	// A slash comes ahead of all letters, so that these rise name by name.
	for _, path := range slices.Sorted(maps.Keys(paths)) {
		x := m.Things[paths[path]]
		line := path + " dir"
		if x.Kind == 1 {
			line = strings.Join([]string{path, "file", fmt.Sprintf("%d:", x.Links)}, " ")
			for _, word := range x.Pages {
				line += fmt.Sprintf(" %d", word)
			}
		}
		lines = append(lines, line)
	}
	return lines
}

func wantText(t *testing.T, where string, m impl.Model, want ...string) {
	t.Helper()
	if got, code := impl.ModelText(m); code != impl.OK || !slices.Equal(got, want) {
		t.Errorf("%s: ModelText is %q, code %d, not %q", where, got, code, want)
	}
}

func wantSame(t *testing.T, where string, a, b impl.Model, want bool) {
	t.Helper()
	if same, code := impl.SameModel(a, b); code != impl.OK || same != want {
		t.Fatalf("%s: SameModel is %v, code %d, not %v:\n%q\n%q", where, same, code, want, textByHand(a), textByHand(b))
	}
	if same, code := impl.SameModel(b, a); code != impl.OK || same != want {
		t.Fatalf("%s: SameModel the other way round is %v, code %d, not %v", where, same, code, want)
	}
}

// modelOf is ModelOf, held against its second telling.
func modelOf(t *testing.T, where string, d impl.Devices) impl.Model {
	t.Helper()
	m := imageByHand(t, where, d)
	got, code := impl.ModelOf(d)
	if want := modelByHand(m, contentsByHand(m, d)); code != impl.OK || !identical(got, want) {
		t.Fatalf("%s: ModelOf has the code %d and is\n%v, not\n%v", where, code, got, want)
	}
	if !impl.ModelOK(got) {
		t.Fatalf("%s: ModelOK is false of what ModelOf answers", where)
	}
	return got
}

func rightNumbers(o impl.Op) bool {
	return 0 <= o.Page && o.Page <= 7 && 0 <= o.Value && o.Value <= 1099511627775
}

// pagesByHand are operations on the pages of a file that is there; false if the numbers are none.
func pagesByHand(pages []int, o impl.Op) ([]int, bool) {
	longest := slices.Concat(pages, make([]int, mostPages))
	switch {
	case o.Kind == 6 && rightNumbers(o):
		longest[o.Page] = o.Value
		return longest[:max(len(pages), o.Page+1)], true
	case o.Kind == 7 && 0 <= o.Page && o.Page <= mostPages:
		return longest[:o.Page], true
	}
	return pages, o.Kind == 8 && 0 <= o.Page && o.Page < len(pages)
}

// pageOpByHand writes, cuts or reads.
func pageOpByHand(m impl.Model, o impl.Op) (impl.Model, impl.Answer) {
	i, code := fileByHand(imageOfModel(m), o.Path)
	if code != impl.OK {
		return m, impl.Answer{Code: code}
	}
	pages, ok := pagesByHand(m.Things[i].Pages, o)
	if !ok {
		return m, impl.Answer{Code: impl.ErrRange}
	}
	m = cloneModel(m)
	m.Things[i].Pages = pages
	if o.Kind == 8 {
		return m, impl.Answer{Value: pages[o.Page]}
	}
	return m, impl.Answer{}
}

// nameOpByHand keeps the pages of all things that are still there.
func nameOpByHand(t *testing.T, m impl.Model, o impl.Op) (impl.Model, impl.Answer) {
	t.Helper()
	image := imageOfModel(m)
	c, _ := nameCallOf(o)
	list, code := c.byHand(image)
	if code != impl.OK {
		return m, impl.Answer{Code: code}
	}
	after, ok := readByHand(applied(memoryOf(image), list).Words)
	if !ok {
		t.Fatalf("%+v leaves an image that is not right", o)
	}
	contents := contentsOfModel(m)
	maps.DeleteFunc(contents, func(i int, _ []int) bool { return after.Inodes[i].Kind != impl.KindFile })
	return modelByHand(after, contents), impl.Answer{}
}

// modelDoneByHand tells ModelDo a second time, on right models and paths that are some.
func modelDoneByHand(t *testing.T, m impl.Model, o impl.Op) (impl.Model, impl.Answer) {
	t.Helper()
	var a impl.Answer
	switch o.Kind {
	case 6, 7, 8:
		return pageOpByHand(m, o)
	case 9:
		a.Value, a.Code = statByHand(imageOfModel(m), o.Path)
		return m, a
	case 10:
		a.Names, a.Code = listByHand(imageOfModel(m), o.Path)
		return m, a
	}
	return nameOpByHand(t, m, o)
}

// modelDo is ModelDo, held against its second telling.
func modelDo(t *testing.T, where string, m impl.Model, o impl.Op) (impl.Model, impl.Answer) {
	t.Helper()
	got, a, code := impl.ModelDo(m, o)
	want, wanted := modelDoneByHand(t, m, o)
	if code != impl.OK || !sameAnswer(a, wanted) {
		t.Fatalf("%s: ModelDo of %+v answers %v, code %d, not %v", where, o, a, code, wanted)
	}
	if !identical(got, want) || !impl.ModelOK(got) || !keepsModelRules(got) {
		t.Fatalf("%s: behind ModelDo of %+v the model is\n%v, not\n%v", where, o, got, want)
	}
	return got, a
}

// modelWith is what operations that all have no code make of a new model.
func modelWith(t *testing.T, list ...impl.Op) impl.Model {
	t.Helper()
	m := impl.NewModel()
	for _, o := range list {
		after, a := modelDo(t, "modelWith", m, o)
		if a.Code != impl.OK {
			t.Fatalf("%+v has the code %d", o, a.Code)
		}
		m = after
	}
	return m
}

type namedModel struct {
	name  string
	model impl.Model
}

// crammed has as many pages as things may have, more than both tiers have addresses.
func crammed() impl.Model {
	m := modelled(fullImage())
	for i := 1; i <= lastInode; i++ {
		m.Things[i].Pages = nil
		for page := range mostPages {
			m.Things[i].Pages = append(m.Things[i].Pages, 100*i+page)
		}
	}
	return m
}

func rightModels() []namedModel {
	list := []namedModel{{"a new one", impl.NewModel()}, {"the tree", modelled(treeImage())}, {"crammed", crammed()}}
	for _, m := range rightImages() {
		list = append(list, namedModel{m.name, modelled(m.image)})
	}
	ends := modelled(smallImage())
	ends.Things[4].Pages = []int{0, impl.MaxWord - 1, 0}
	empty := modelled(smallImage())
	for i := range empty.Things {
		empty.Things[i].Pages = slices.Concat([]int{}, empty.Things[i].Pages)
	}
	return append(list, namedModel{"the least word and the greatest", ends}, namedModel{"empty lists, not nil", empty})
}

// changedModel is smallImage's model with one thing done to it.
func changedModel(name string, do func(m *impl.Model)) namedModel {
	m := modelled(smallImage())
	do(&m)
	return namedModel{name, m}
}

// wrongShapes are the images that are not right for another reason than their addresses, with pages of noughts.
func wrongShapes() []namedModel {
	var list []namedModel
	for _, x := range wrongImages() {
		m := modelByHand(x.image, nil)
		for i, inode := range x.image.Inodes {
			if 0 < inode.Size && inode.Size <= impl.MaxList {
				m.Things[i].Pages = make([]int, inode.Size)
			}
		}
		if !keepsTheRules(imageOfModel(m)) {
			list = append(list, namedModel{x.name, m})
		}
	}
	return list
}

// wrongPages have pages where there are none, too many, or some that are no words.
func wrongPages() []namedModel {
	var list []namedModel
	add := func(name string, i int, pages []int) {
		list = append(list, changedModel(name, func(m *impl.Model) { m.Things[i].Pages = pages }))
	}
	for _, n := range append(noIndexes(impl.MaxWord-1), impl.MaxWord) {
		add(fmt.Sprint("the page ", n), 4, []int{n})
		add(fmt.Sprint("the last page ", n), 15, []int{1, 2, 3, 4, 5, 6, 7, n})
		add(fmt.Sprint("a page among others ", n), 1, []int{0, n, 0})
		add(fmt.Sprint("a directory's page ", n), 5, []int{n})
	}
	for _, n := range []int{1, 8, 9, impl.MaxList + 1} {
		add(fmt.Sprint("a root of ", n, " pages"), 0, make([]int, n))
		add(fmt.Sprint("a directory of ", n, " pages"), 2, make([]int, n))
		add(fmt.Sprint("a free thing of ", n, " pages"), 6, make([]int, n))
	}
	for _, n := range []int{9, 10, 16, impl.MaxList, impl.MaxList + 1, impl.MaxText + 1} {
		add(fmt.Sprint("a file of ", n, " pages"), 4, make([]int, n))
	}
	return list
}

func wrongModels() []namedModel {
	list := append(wrongShapes(), wrongPages()...)
	return append(list,
		namedModel{"things alone", impl.Model{Things: modelled(smallImage()).Things}},
		namedModel{"entries alone", impl.Model{Dirents: modelled(smallImage()).Dirents}},
		changedModel("one thing too few", func(m *impl.Model) { m.Things = m.Things[:lastInode] }),
		changedModel("one thing too many", func(m *impl.Model) { m.Things = append(m.Things, impl.Thing{}) }),
		changedModel("far too many things", func(m *impl.Model) { m.Things = append(m.Things, make([]impl.Thing, 2*impl.MaxList)...) }),
		changedModel("one entry too few", func(m *impl.Model) { m.Dirents = slices.Delete(m.Dirents, 2, 3) }),
		changedModel("one entry too many", func(m *impl.Model) { m.Dirents = append(m.Dirents, freeEntry()) }),
		changedModel("far too many entries", func(m *impl.Model) {
			m.Dirents = append(m.Dirents, slices.Repeat([]impl.Dirent{freeEntry()}, 2*impl.MaxList)...)
		}),
	)
}

// moved is a model whose things, all but the root, and whose entries stand elsewhere; its paths are the same.
func moved(d *dice, m impl.Model) impl.Model {
	m = cloneModel(m)
	place := append([]int{0}, rollOrder(d, []int{1, 2, 3, 4, 5, 6, 7, 8, 9, 10, 11, 12, 13, 14, 15})...)
	things := make([]impl.Thing, len(m.Things))
	for i, x := range m.Things {
		things[place[i]] = x
	}
	for k, x := range m.Dirents {
		if x != freeEntry() {
			m.Dirents[k].Dir, m.Dirents[k].Child = place[x.Dir], place[x.Child]
		}
	}
	for k := range m.Dirents {
		other := d.roll(k + 1)
		m.Dirents[k], m.Dirents[other] = m.Dirents[other], m.Dirents[k]
	}
	m.Things = things
	return m
}

// rollModel is a right model: its pages are any words.
func rollModel(d *dice) impl.Model {
	m := modelled(rollImage(d))
	for i := range m.Things {
		for page := range m.Things[i].Pages {
			m.Things[i].Pages[page] = max(0, min(rollValue(d), impl.MaxWord-1))
		}
	}
	return m
}

// rollModelChange changes one thing of a model, to what may be right or wrong.
func rollModelChange(d *dice, m *impl.Model) {
	x := &m.Things[d.roll(len(m.Things))]
	switch d.roll(4) {
	case 0:
		x.Pages = make([]int, d.roll(12))
	case 1:
		if len(x.Pages) > 0 {
			x.Pages[d.roll(len(x.Pages))] = []int{-1, 0, 5, impl.MaxWord - 1, impl.MaxWord}[d.roll(5)]
		}
	default:
		image, contents := imageOfModel(*m), contentsOfModel(*m)
		rollChange(d, &image)
		*m = modelByHand(image, contents)
	}
}
