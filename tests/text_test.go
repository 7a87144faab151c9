package tests

import (
	"fmt"
	"slices"
	"strings"
	"testing"

	"loop.example/g00410/impl"
)

func TestP16OperationsAndTheirTexts(t *testing.T) {
	for text, o := range map[string]impl.Op{
		"make /a":                               makeOp("/a"),
		"mkdir /zzzzzz/a":                       mkdirOp("/zzzzzz/a"),
		"remove /a/b/c/d/e/f":                   removeOp("/a/b/c/d/e/f"),
		"link /a /b":                            linkOp("/a", "/b"),
		"link / /":                              linkOp("/", "/"),
		"rename /a/b /c":                        renameOp("/a/b", "/c"),
		"write /a 0 0":                          writeOp("/a", 0, 0),
		"write /a 7 12":                         writeOp("/a", 7, 12),
		"write / 1000 1099511627775":            writeOp("/", 1000, 1099511627775),
		"cut /a 0":                              cutOp("/a", 0),
		"cut /a 8":                              cutOp("/a", 8),
		"cut /a 1000":                           cutOp("/a", 1000),
		"read /a 3":                             readOp("/a", 3),
		"read /a 999":                           readOp("/a", 999),
		"stat /":                                statOp("/"),
		"list /":                                listOp("/"),
		"list /make":                            listOp("/make"),
		"stat /abcdef/ghijkl/mnopqr/stuvwx/y/z": statOp("/abcdef/ghijkl/mnopqr/stuvwx/y/z"),
	} {
		if got, code := impl.OpText(o); got != text || code != impl.OK {
			t.Errorf("OpText of %+v is %q, code %d, not %q", o, got, code, text)
		}
		if got, code := impl.ReadOp(text); got != o || code != impl.OK {
			t.Errorf("ReadOp of %q is %+v, code %d, not %+v", text, got, code, o)
		}
		if !wantOpText(t, o) || !wantReadOp(t, text) {
			t.Errorf("%q is no operation's text when it is told a second time", text)
		}
	}
}

func TestP16PathsOfEachDepth(t *testing.T) {
	for _, path := range somePaths() {
		for _, to := range somePaths() {
			for _, o := range opsOn(path, to, 3, 5) {
				if !wantOpText(t, o) {
					t.Errorf("%+v has no text", o)
				}
			}
		}
	}
}

func TestP16NumbersOfOperations(t *testing.T) {
	for n := range mostTold + 1 {
		for _, o := range []impl.Op{cutOp("/a", n), readOp("/a", n), writeOp("/a", n, n), writeOp("/a", mostTold-n, impl.MaxWord-1-n)} {
			if !wantOpText(t, o) {
				t.Errorf("%+v has no text", o)
			}
		}
	}
	for n := 1; n < impl.MaxWord; n *= 2 {
		wantOpText(t, writeOp("/a", 0, n))
		wantOpText(t, writeOp("/a", 0, n-1))
	}
	for n := 1; n < impl.MaxWord; n *= 10 {
		wantOpText(t, writeOp("/a", 0, n))
		wantOpText(t, writeOp("/a", 0, n-1))
	}
}

func TestP16RolledOperations(t *testing.T) {
	d := &dice{state: 161}
	count := map[bool]int{}
	for range 20000 {
		count[wantOpText(t, rollSayable(d))]++
	}
	if count[true] < 5000 || count[false] < 3000 {
		t.Errorf("the operations had a text or none %v times", count)
	}
}

func TestP16RolledTexts(t *testing.T) {
	d := &dice{state: 162}
	count := map[bool]int{}
	for range 20000 {
		count[wantReadOp(t, rollOpText(d))]++
	}
	if count[true] < 5000 || count[false] < 5000 {
		t.Errorf("the texts were operations' or none %v times", count)
	}
}

// someOps have a text each, of all shapes.
func someOps() []impl.Op {
	return append(opsOn("/a", "/b/zzzzzz", 3, 12), opsOn("/", "/", 0, 0)...)
}

func TestP16BlanksBetween(t *testing.T) {
	for _, o := range someOps() {
		text, _ := impl.OpText(o)
		for _, blanks := range []string{" ", "  ", "     ", strings.Repeat(" ", 1000)} {
			wide := strings.ReplaceAll(text, " ", blanks)
			for _, x := range []string{wide, blanks + wide, wide + blanks, blanks + wide + blanks} {
				if got, code := impl.ReadOp(x); got != o || code != impl.OK || !wantReadOp(t, x) {
					t.Errorf("ReadOp of %q is %+v, code %d, not %+v", x, got, code, o)
				}
			}
		}
		for _, x := range textsOfAllBytes(text, impl.MaxText) {
			if got, code := impl.ReadOp(x); got != o || code != impl.OK {
				t.Errorf("ReadOp of %d bytes is %+v, code %d, not %+v", len(x), got, code, o)
			}
		}
		for _, x := range textsOfAllBytes(text, impl.MaxText+1) {
			wantCode(t, "a byte more", readOpCall(x), impl.ErrLong)
		}
		// Without a blank between they are one word.
		wantCode(t, text, readOpCall(strings.ReplaceAll(text, " ", "")), impl.ErrForm)
	}
}

// textsOfAllBytes are as long as that by blanks: ahead, behind and between.
func textsOfAllBytes(text string, length int) []string {
	blanks := strings.Repeat(" ", length-len(text))
	return []string{blanks + text, text + blanks, strings.Replace(text, " ", blanks+" ", 1)}
}

// Any byte in the place of any other one, and between any two.
func TestP16AnyByte(t *testing.T) {
	for _, o := range append(opsOn("/a", "/b", 3, 12), writeOp("/", 1000, 1), linkOp("/zzzzzz", "/")) {
		text, _ := impl.OpText(o)
		for at := range len(text) + 1 {
			for b := range 256 {
				wantReadOp(t, text[:at]+string([]byte{byte(b)})+text[at:])
				if at < len(text) {
					wantReadOp(t, text[:at]+string([]byte{byte(b)})+text[at+1:])
				}
			}
			wantReadOp(t, text[:at])
			wantReadOp(t, text[at:])
			if at < len(text) {
				wantReadOp(t, text[:at]+text[at+1:])
			}
		}
	}
}

func wantForm(t *testing.T, texts ...string) {
	t.Helper()
	for _, text := range texts {
		if wantReadOp(t, text) {
			t.Errorf("%.90q is an operation's text when it is told a second time", text)
		}
	}
}

func TestP16TextsOfNoOperation(t *testing.T) {
	wantForm(t, "", " ", "   ", strings.Repeat(" ", impl.MaxText), "\t", "\n", "\x00", "/", "/a", "/a make", "0", "1 2 3", "ok", "go /a", "a", "a a",
		strings.Repeat("a", impl.MaxText), strings.Repeat("a ", impl.MaxText/2), strings.Repeat("make ", impl.MaxText/5), "make "+strings.Repeat("/a ", impl.MaxText/4))
	for _, word := range []string{"start", "finish", "steps", "demote", "promote", "decay", "crash", "tree", "todo", "store", "flush", "fence", "barrier", "touch", "mak", "makee", "Make", "MAKE", "mkDir", "make:", "#make", "\"make\"", "ｍake", "make\x00", "\xffmake"} {
		wantForm(t, word, word+" /a", word+" /a /b", word+" /a 0", word+" /a 0 0", word+" make /a")
	}
	for _, word := range kindWords() {
		wantForm(t, word, word+" ", " "+word, strings.ToUpper(word)+" /a", word+"/a", word+" /a /b /c", word+" /a 0 0 0", word+" "+word, word+" "+word+" /a", word+" /a "+word, word+" 0", word+" 0 /a", word+" /a 0 /b", word+" /a /b 0", word+"\t/a", word+"\n/a 0", word+" /a\t", word+" /a\n")
	}
}

// A word too few, and one too many of any kind.
func TestP16WordsTooFewOrTooMany(t *testing.T) {
	for _, o := range someOps() {
		text, _ := impl.OpText(o)
		words := strings.Split(text, " ")
		for at := range words {
			wantForm(t, strings.Join(slices.Delete(slices.Clone(words), at, at+1), " "))
		}
		for at := range len(words) + 1 {
			for _, more := range []string{"/a", "/", "0", "1", "make", "-", "x", "\t", "\x00"} {
				wantForm(t, strings.Join(slices.Insert(slices.Clone(words), at, more), " "))
			}
		}
	}
}

func TestP16NumbersThatAreNone(t *testing.T) {
	for _, n := range append(noNumbers(), numbersBeyond()...) {
		wantForm(t, "cut /a "+n, "read /a "+n, "write /a "+n+" 5", "write /a 5 "+n, "write /a "+n+" "+n)
	}
	// A number of no digits is no word.
	wantForm(t, "cut /a ", "read /a  ", "write /a  5", "write /a 5 ")
	for n, page := range map[string]bool{"0": true, "9": true, "10": true, "999": true, "1000": true, "1001": false, "1002": false, "9999": false, "1099511627775": false} {
		for _, text := range []string{"cut /a " + n, "read /a " + n, "write /a " + n + " 5"} {
			if wantReadOp(t, text) != page {
				t.Errorf("%q: that it is an operation's text is not %v", text, page)
			}
		}
		if !wantReadOp(t, "write /a 0 "+n) {
			t.Errorf("%s is no word", n)
		}
	}
}

func TestP16PathsThatAreNone(t *testing.T) {
	for _, path := range append(noPaths(), longTexts()...) {
		for _, o := range opsOn(path, "/b", 3, 5) {
			if wantOpText(t, o) {
				t.Errorf("%.60q has a text", fmt.Sprint(o))
			}
		}
		wantOpText(t, linkOp("/a", path))
		wantOpText(t, renameOp("/a", path))
		if len(path) > impl.MaxText-20 {
			continue
		}
		for _, word := range kindWords() {
			wantReadOp(t, word+" "+path)
			wantReadOp(t, word+" "+path+" /b")
			wantReadOp(t, word+" /b "+path)
			wantReadOp(t, word+" "+path+" 3")
			wantReadOp(t, word+" "+path+" 3 5")
		}
	}
}

func TestP16OperationsWithoutAText(t *testing.T) {
	for _, o := range []impl.Op{
		{}, {Path: "/a"}, {Kind: 11, Path: "/a"}, {Kind: -1, Path: "/a"},
		makeOp(""), makeOp("a"), linkOp("/a", ""), linkOp("", "/a"), linkOp("/a", "b"), renameOp("/a", ""), renameOp("/a", "/a/"),
		readOp("/a", -1), readOp("/a", 1001), cutOp("/a", -1), cutOp("/a", 1001), writeOp("/a", -1, 0), writeOp("/a", 1001, 0), writeOp("/a", 0, -1), writeOp("/a", 0, impl.MaxWord),
	} {
		if wantOpText(t, o) {
			t.Errorf("%+v has a text", o)
		}
	}
	// What an operation has no use for must be zero.
	for _, o := range someOps() {
		wantChanged := func(uses bool, do func(o *impl.Op)) {
			x := o
			do(&x)
			if wantOpText(t, x) != uses {
				t.Errorf("%+v: that it has a text is not %v", x, uses)
			}
		}
		to, page, value, _ := usesByHand(o.Kind)
		wantChanged(to, func(o *impl.Op) { o.To = "/x" })
		wantChanged(page, func(o *impl.Op) { o.Page = 1 })
		wantChanged(value, func(o *impl.Op) { o.Value = 1 })
	}
}

func TestP16NumbersOutOfBounds(t *testing.T) {
	for _, n := range noIndexes(mostTold) {
		for _, o := range []impl.Op{cutOp("/a", n), readOp("/a", n), writeOp("/a", n, 5)} {
			if wantOpText(t, o) {
				t.Errorf("%+v has a text", o)
			}
		}
	}
	for _, n := range noIndexes(impl.MaxWord - 1) {
		if wantOpText(t, writeOp("/a", 0, n)) {
			t.Errorf("a write of %d has a text", n)
		}
	}
}

func TestP16Answers(t *testing.T) {
	for _, c := range []struct {
		o    impl.Op
		a    impl.Answer
		want string
	}{
		{makeOp("/a"), impl.Answer{}, "ok"},
		{mkdirOp("/a"), impl.Answer{Code: impl.ErrTwice}, "twice"},
		{removeOp("/a"), impl.Answer{Code: impl.ErrNotEmpty}, "notempty"},
		{linkOp("/a", "/b"), impl.Answer{Code: impl.ErrDir}, "dir"},
		{renameOp("/a", "/b"), impl.Answer{Code: impl.ErrLoop}, "loop"},
		{writeOp("/a", 0, 5), impl.Answer{Code: impl.ErrFull}, "full"},
		{cutOp("/a", 9), impl.Answer{Code: impl.ErrRange}, "range"},
		{readOp("/a", 0), impl.Answer{}, "ok 0"},
		{readOp("/a", 0), impl.Answer{Value: 1099511627775}, "ok 1099511627775"},
		{readOp("/a", 0), impl.Answer{Code: impl.ErrRange, Value: 5}, "range"},
		{statOp("/a"), impl.Answer{Value: 101}, "ok file 0 1"},
		{statOp("/a"), impl.Answer{Value: 189}, "ok file 8 9"},
		{statOp("/"), impl.Answer{Value: 201}, "ok dir 0 1"},
		{statOp("/"), impl.Answer{}, "ok file 0 0"},
		{statOp("/"), impl.Answer{Value: 345}, "ok file 4 5"},
		{statOp("/"), impl.Answer{Value: 1234}, "ok file 3 4"},
		{statOp("/"), impl.Answer{Code: impl.ErrNone, Value: 201}, "none"},
		{listOp("/"), impl.Answer{}, "ok"},
		{listOp("/"), impl.Answer{Names: []string{"a"}}, "ok a"},
		{listOp("/"), impl.Answer{Names: []string{"b", "a", "b", "zzzzzz"}}, "ok b a b zzzzzz"},
		{listOp("/"), impl.Answer{Code: impl.ErrNoDir, Names: []string{"a"}}, "nodir"},
		{makeOp("/a"), impl.Answer{Value: 5, Names: []string{"a"}}, "ok"},
		{readOp("/a", 0), impl.Answer{Value: 5, Names: []string{"a"}}, "ok 5"},
		{statOp("a"), impl.Answer{Code: impl.ErrName}, "name"},
		{makeOp(""), impl.Answer{}, "ok"},
		{statOp("/A"), impl.Answer{Value: 231}, "ok dir 3 1"},
		{listOp("//"), impl.Answer{Names: []string{"a", "b"}}, "ok a b"},
		{linkOp("/a", ""), impl.Answer{Code: impl.ErrName}, "name"},
		{cutOp("/a", 1001), impl.Answer{Code: impl.ErrRange}, "range"},
		{readOp("b", -1), impl.Answer{Value: 111}, "ok 111"},
		{writeOp("/a", 0, impl.MaxWord), impl.Answer{Code: impl.ErrRange}, "range"},
	} {
		if got, code := impl.AnswerText(c.o, c.a); got != c.want || code != impl.OK {
			t.Errorf("AnswerText of %+v, %+v is %q, code %d, not %q", c.o, c.a, got, code, c.want)
		}
		if !wantAnswerText(t, c.o, c.a) {
			t.Errorf("%+v has no text when it is told a second time", c.a)
		}
	}
}

// opsWithoutAText are right, but for a path that is none, or a number that is out of its bounds.
func opsWithoutAText() []impl.Op {
	list := []impl.Op{linkOp("/a", ""), renameOp("/a", "/b/"), linkOp("", "")}
	for _, path := range noPaths() {
		list = append(list, opsOn(path, "/b", 3, 5)...)
		list = append(list, linkOp("/a", path), renameOp("/a", path))
	}
	for _, n := range noIndexes(mostTold) {
		list = append(list, cutOp("/a", n), readOp("/a", n), writeOp("/a", n, 5), writeOp("a", n, n))
	}
	for _, n := range noIndexes(impl.MaxWord - 1) {
		list = append(list, writeOp("/a", 0, n))
	}
	return list
}

// What the answer to an operation is told as hangs on its kind alone.
func TestP16AnswersToOperationsWithoutAText(t *testing.T) {
	likes := map[int]impl.Op{}
	for _, o := range opsOn("/a", "/b", 3, 5) {
		likes[o.Kind] = o
	}
	answers := append(someAnswers(), impl.Answer{Code: 20}, impl.Answer{Value: impl.MaxWord}, impl.Answer{Names: shortNames(25)}, impl.Answer{Code: impl.ErrRange, Value: 5, Names: shortNames(24)})
	for _, o := range opsWithoutAText() {
		where := fmt.Sprintf("%.90q", fmt.Sprint(o))
		if !impl.OpOK(o) {
			t.Errorf("%s is no operation", where)
		}
		if text, code := impl.OpText(o); text != "" || code != impl.ErrBad {
			t.Errorf("%s has a text: %q, code %d", where, text, code)
		}
		for _, a := range answers {
			wantAnswerText(t, o, a)
			text, code := impl.AnswerText(o, a)
			like, likeCode := impl.AnswerText(likes[o.Kind], a)
			if text != like || code != likeCode {
				t.Errorf("AnswerText of %s, %+v is %q, code %d, not %q, code %d", where, a, text, code, like, likeCode)
			}
		}
	}
}

// shortNames are so many, of one to six letters.
func shortNames(n int) []string {
	var list []string
	for k := range n {
		list = append(list, "zyxwvu"[k%6:])
	}
	return list
}

func TestP16AnswersOfEachCode(t *testing.T) {
	for _, o := range someOps() {
		for _, code := range append(noIndexes(19), 0, 1, 2, 3, 4, 5, 6, 7, 8, 9, 10, 11, 12, 13, 14, 15, 16, 17, 18, 19) {
			for _, value := range append(noIndexes(impl.MaxWord-1), 0, 1, 182, 201, impl.MaxWord-1) {
				for _, names := range [][]string{nil, {"a"}, shortNames(impl.Dirents), shortNames(impl.Dirents + 1), {"a", "B"}} {
					wantAnswerText(t, o, impl.Answer{Code: code, Value: value, Names: names})
				}
			}
		}
	}
}

func TestP16AnswersOfStats(t *testing.T) {
	for value := range 3000 {
		if !wantAnswerText(t, statOp("/a"), impl.Answer{Value: value}) {
			t.Errorf("a stat of %d has no text", value)
		}
	}
	for n := 1; n < impl.MaxWord; n *= 10 {
		for _, value := range []int{n - 1, n, 2 * n, 2*n + 13, 12 * n} {
			wantAnswerText(t, statOp("/"), impl.Answer{Value: value})
		}
	}
}

func TestP16AnswersOfLists(t *testing.T) {
	for n := range 2 * impl.Dirents {
		ok := wantAnswerText(t, listOp("/"), impl.Answer{Names: shortNames(n)})
		if ok != (n <= impl.Dirents) {
			t.Errorf("that a list of %d names has a text is %v", n, ok)
		}
	}
	for _, name := range append(noShortNames(), longTexts()...) {
		for _, names := range [][]string{{name}, {"a", name}, {name, "a"}, append(shortNames(impl.Dirents-1), name)} {
			for _, o := range []impl.Op{listOp("/"), statOp("/"), makeOp("/a")} {
				for _, code := range []int{impl.OK, impl.ErrNone} {
					if wantAnswerText(t, o, impl.Answer{Code: code, Names: names}) {
						t.Errorf("%.40q is a name", name)
					}
				}
			}
		}
	}
}

// wantToldAnswers asks that the answers of a file system and of its model have texts.
func wantToldAnswers(t *testing.T, f impl.Fs, o impl.Op) {
	t.Helper()
	_, a, code := impl.DoOp(f, o)
	if code != impl.OK || !wantAnswerText(t, o, a) {
		t.Errorf("the answer %+v, code %d, to %.90q has no text", a, code, fmt.Sprint(o))
	}
	model, _ := impl.ModelOf(f.Devices)
	_, a, code = impl.ModelDo(model, o)
	if code != impl.OK || !wantAnswerText(t, o, a) {
		t.Errorf("the model's answer %+v, code %d, to %.90q has no text", a, code, fmt.Sprint(o))
	}
}

// What is asked need not have a text itself.
func TestP16AnswersToWhatHasNoText(t *testing.T) {
	f := resting(smallImage())
	for _, o := range opsWithoutAText() {
		wantToldAnswers(t, f, o)
	}
	for want, list := range map[string][]impl.Op{
		"name":  {statOp("a"), listOp("/A"), makeOp("//"), mkdirOp(""), removeOp("/f/"), linkOp("/f", "x"), renameOp("/f", ""), readOp("f", 0)},
		"range": {cutOp("/f", 1001), readOp("/f", -1), writeOp("/f", -1, 5), writeOp("/f", 0, -1), writeOp("/f", 0, impl.MaxWord)},
	} {
		for _, o := range list {
			_, a, _ := impl.DoOp(f, o)
			if got, code := impl.AnswerText(o, a); got != want || code != impl.OK {
				t.Errorf("the answer %+v to %+v is %q, code %d, not %q", a, o, got, code, want)
			}
		}
	}
}

// What file systems and models answer is told, whatever is asked of them.
func TestP16AnswersOfFileSystems(t *testing.T) {
	for _, m := range []impl.Image{bareImage(), smallImage(), fullImage()} {
		f := resting(m)
		for _, o := range append(opsOfEachKind(), listOp("/d"), statOp("/"), statOp("/zzzzzz"), readOp("/zzzzzz", 7)) {
			wantToldAnswers(t, f, o)
		}
	}
	small := resting(smallImage())
	for text, want := range map[string]string{"stat /f": "ok file 3 2", "stat /zzzzzz": "ok file 8 1", "stat /": "ok dir 0 1", "read /f 0": "ok 1312", "read /f 3": "range", "list /nobody": "none", "make /f": "twice", "make /": "root"} {
		o, _ := impl.ReadOp(text)
		_, a, _ := impl.DoOp(small, o)
		if got, code := impl.AnswerText(o, a); got != want || code != impl.OK {
			t.Errorf("%q is answered %q, code %d, not %q", text, got, code, want)
		}
	}
}

func TestP16StepsAndTheirTexts(t *testing.T) {
	for text, m := range map[string]impl.Micro{
		"store 0 0":               storeStep(0, 0),
		"store 335 1099511627775": storeStep(335, impl.MaxWord-1),
		"store 8 12":              storeStep(8, 12),
		"flush 0":                 flushStep(0),
		"flush 335":               flushStep(335),
		"fence":                   fenceStep(),
		"write 0 0":               writeStep(0, 0),
		"write 31 1099511627775":  writeStep(31, impl.MaxWord-1),
		"barrier":                 barrierStep(),
	} {
		if got, code := impl.MicroText(m); got != text || code != impl.OK {
			t.Errorf("MicroText of %+v is %q, code %d, not %q", m, got, code, text)
		}
		if !wantPlanText(t, text, m) {
			t.Errorf("%+v has no text when it is told a second time", m)
		}
	}
	for at := range impl.PmSize {
		wantPlanText(t, "at each place", storeStep(at, at+1), flushStep(at))
	}
	for at := range impl.BlkSize {
		wantPlanText(t, "at each sector", writeStep(at, at+1))
	}
}

func TestP16Plans(t *testing.T) {
	if !wantPlanText(t, "no steps") {
		t.Error("no steps have no text")
	}
	if !wantPlanText(t, "all steps that are some", rightSteps()...) {
		t.Error("steps that are right have no text")
	}
	for _, n := range []int{1, 2, 100, impl.MaxList - 1, impl.MaxList} {
		list := slices.Repeat(rightSteps(), 1+n/len(rightSteps()))[:n]
		if !wantPlanText(t, fmt.Sprint(n, " steps"), list...) {
			t.Errorf("%d steps have no text", n)
		}
	}
	for _, o := range opsOfEachKind() {
		plan, _, _ := impl.PlanOp(housed(smallImage()), o)
		if !wantPlanText(t, fmt.Sprint(o), plan...) {
			t.Errorf("the plan of %+v has no text", o)
		}
	}
}

func TestP16PlansWithoutTexts(t *testing.T) {
	right := rightSteps()
	for k, m := range wrongSteps() {
		at := k % (len(right) + 1)
		if wantPlanText(t, fmt.Sprintf("%+v", m), slices.Insert(slices.Clone(right), at, m)...) {
			t.Errorf("%+v has a text", m)
		}
		wantPlanText(t, "alone", m)
		wantPlanText(t, "ahead", append([]impl.Micro{m}, right...)...)
		wantPlanText(t, "last", append(slices.Clone(right), m)...)
	}
}
