package tests

import (
	"fmt"
	"slices"
	"strings"
	"testing"

	"loop.example/g00410/impl"
)

// exchange is a line, and all that is said to it.
type exchange struct {
	line string
	said []string
}

func says(line string, said ...string) exchange { return exchange{line, said} }

// wantExchanges asks line by line, on one world.
func wantExchanges(t *testing.T, where string, list ...exchange) impl.World {
	t.Helper()
	var lines, all []string
	for _, x := range list {
		lines, all = append(lines, x.line), append(all, x.said...)
		_, said := runLines(t, where, lines...)
		wantLines(t, fmt.Sprintf("%s, %q", where, x.line), said, all)
	}
	w, said := wantSaid(t, where, lines...)
	wantLines(t, where, said, all)
	wantWhole(t, where, w)
	return w
}

func TestP17OneSession(t *testing.T) {
	wantExchanges(t, "operations",
		says("make /a", "ok"), says("make /a", "twice"), says("mkdir /b", "ok"), says("make /b/c", "ok"), says("list /", "ok a b"), says("list /b", "ok c"), says("list /a", "nodir"),
		says("write /a 1 5", "ok"), says("read /a 0", "ok 0"), says("read /a 1", "ok 5"), says("read /a 2", "range"), says("write /a 8 5", "range"), says("write /a 1000 5", "range"), says("write /b 0 5", "dir"),
		says("stat /a", "ok file 2 1"), says("stat /b", "ok dir 0 1"), says("stat /", "ok dir 0 1"), says("stat /x", "none"), says("stat /a/x", "nodir"),
		says("link /a /b/d", "ok"), says("stat /b/d", "ok file 2 2"), says("link /b /x", "dir"), says("remove /b", "notempty"), says("remove /", "root"), says("rename /b /b/x", "loop"),
		says("tree", "/a file 2: 0 5", "/b dir", "/b/c file 1:", "/b/d file 2: 0 5", "agree yes"),
		says("cut /a 1", "ok"), says("read /b/d 1", "range"), says("cut /a 9", "range"), says("rename /b/d /e", "ok"), says("remove /a", "ok"),
		says("tree", "/b dir", "/b/c file 1:", "/e file 1: 0", "agree yes"), says("list /b/c", "nodir"), says("todo", "0 left"),
	)
	wantExchanges(t, "steps",
		says("make /a", "ok"), says("start write /a 0 5", "19 left"), says("steps 0", "19 left"), says("steps 1", "18 left"), says("steps 13", "5 left"),
		says("todo", "flush 63", "fence", "store 8 0", "flush 8", "fence", "5 left"), says("list /", "error busy"), says("start list /", "error busy"), says("demote", "busy"), says("promote", "busy"), says("decay", "ok"),
		says("tree", "/a file 1:", "agree yes"), says("steps 200", "ok"), says("steps 200", "0 left"), says("finish", "0 left"), says("steps 0", "0 left"), says("tree", "/a file 1: 5", "agree yes"),
		says("start read /a 0", "ok 5"), says("start stat /a", "ok file 1 1"), says("start list /", "ok a"), says("start make /a", "twice"), says("start make /b", "27 left"), says("steps 27", "ok"), says("start make /c", "28 left"), says("finish", "ok"),
		says("promote", "none"), says("demote", "ok"), says("todo", "write 0 5", "barrier", "store 63 2", "flush 63", "fence", "5 left"), says("steps 4", "1 left"), says("make /d", "error busy"), says("finish", "0 left"),
		says("demote", "none"), says("promote", "ok"), says("finish", "0 left"), says("read /a 0", "ok 5"),
	)
	wantExchanges(t, "crashes",
		says("crash", "ok"), says("crash 0", "ok"), says("crash 400 400", "ok"), says("make /a", "ok"),
		says("start write /a 0 5", "19 left"), says("steps 3", "16 left"), says("crash 1", "ok"), says("tree", "/a file 1:", "agree yes"), says("todo", "0 left"),
		says("start write /a 0 5", "19 left"), says("steps 12", "7 left"), says("crash", "ok"), says("tree", "/a file 1: 5", "agree yes"), says("finish", "0 left"),
		says("start remove /a", "57 left"), says("steps 35", "22 left"), says("crash", "ok"), says("stat /a", "ok file 1 1"),
		says("start remove /a", "57 left"), says("steps 36", "21 left"), says("crash", "ok"), says("stat /a", "none"),
		says("make /b", "ok"), says("write /b 0 6", "ok"), says("demote", "ok"), says("steps 1", "4 left"), says("crash 1", "ok"), says("read /b 0", "ok 6"), says("promote", "none"),
		says("demote", "ok"), says("steps 5", "0 left"), says("crash", "ok"), says("demote", "none"), says("promote", "ok"),
	)
}

// batches are runs of lines that there is room for behind others.
func batches(lines []string, ahead int) [][]string {
	return slices.Collect(slices.Chunk(lines, mostLines-ahead))
}

func TestP17LinesThatSayNothing(t *testing.T) {
	for _, line := range silentLines() {
		for _, n := range []int{1, 2, mostLines} {
			w, said := wantSaid(t, fmt.Sprintf("%d times %.60q", n, line), slices.Repeat([]string{line}, n)...)
			wantLines(t, line, said, nil)
			wantWorld(t, line, w, impl.NewWorld())
		}
	}
	lines := []string{"make /a", "start write /a 0 5", "steps 3", "todo", "go", "demote", "crash 1", "tree", "write /a 0 6", "demote", "finish", "read /a 0"}
	w, said := runLines(t, "without them", lines...)
	for _, line := range silentLines() {
		where := fmt.Sprintf("%.60q", line)
		for _, n := range []int{1, 3} {
			silent := slices.Repeat([]string{line}, n)
			between := slices.Clone(silent)
			for _, x := range lines {
				between = append(append(between, x), silent...)
			}
			for _, list := range [][]string{after(silent, lines...), after(lines, silent...), between} {
				got, told := runLines(t, where, list...)
				wantLines(t, where, told, said)
				wantWorld(t, where, got, w)
			}
		}
		// One behind the other, and lines that are not silent among them.
		wantSaid(t, where, line, "make /b", line, line, "list /", "x"+line, line)
	}
}

// A line that is none leaves the world as it was, whatever it was.
func TestP17LinesThatAreNone(t *testing.T) {
	for _, line := range wrongForms() {
		if _, ok := actByHand(line); ok || silentLine.MatchString(line) {
			t.Fatalf("%.60q is a line when it is told a second time", line)
		}
	}
	for k, ahead := range beginnings() {
		w, said := runLines(t, "ahead of them", ahead...)
		for _, wrong := range batches(wrongForms(), len(ahead)) {
			where := fmt.Sprintf("beginning %d, %.60q and others", k, wrong[0])
			lines := after(ahead, wrong...)
			want := after(said, slices.Repeat([]string{"error form"}, len(wrong))...)
			got, told := runLines(t, where, lines...)
			wantLines(t, where, told, want)
			wantWorld(t, where, got, w)
			wantAsText(t, where, lines, want)
		}
	}
}

// What a number may be, at both ends.
func TestP17NumbersOfLines(t *testing.T) {
	begun := after(someLines(), "start remove /g")
	_, ahead := runLines(t, "begun", begun...)
	for _, n := range []int{-402, -401, -400, -201, -200, -2, -1, 0, 1, 2, 7, 9, 10, 11, 56, 57, 58, 99, 100, 101, 198, 199, 200, 201, 202, 299, 398, 399, 400, 401, 402, 1000, 4000} {
		for _, number := range []string{fmt.Sprint(n), fmt.Sprint("0", n), fmt.Sprint("+", n)} {
			told := "ok"
			if n < 0 || n > 400 || number != fmt.Sprint(n) {
				told = "error form"
			}
			_, said := runLines(t, number, after(begun, "crash "+number)...)
			wantLines(t, "crash "+number, said[len(ahead):], []string{told})
			told = fmt.Sprint(max(0, 57-n), " left")
			if n >= 57 {
				told = "ok"
			}
			if n < 0 || n > 200 || number != fmt.Sprint(n) {
				told = "error form"
			}
			_, said = runLines(t, number, after(begun, "steps "+number)...)
			wantLines(t, "steps "+number, said[len(ahead):], []string{told})
		}
	}
}

// Blanks between words are as many as you like, and there may be some ahead and behind.
func TestP17BlanksInLines(t *testing.T) {
	for _, line := range []string{"steps 3", "finish", "crash", "crash 1 0 400", "tree", "todo", "decay", "demote", "promote", "list /", "start list /", "go", "start", "start go", "steps", "steps 201", "crash x"} {
		for _, ahead := range [][]string{{"make /f", "write /f 0 5"}, {"make /f", "start write /f 0 9", "steps 2"}} {
			w, said := wantSaid(t, line, after(ahead, line)...)
			for _, blanks := range []string{"   ", strings.Repeat(" ", 500)} {
				wide := strings.ReplaceAll(line, " ", blanks)
				for _, x := range []string{wide, blanks + wide, wide + blanks, blanks + wide + blanks} {
					got, told := wantSaid(t, x, after(ahead, x)...)
					wantLines(t, x, told, said)
					wantWorld(t, x, got, w)
				}
			}
		}
	}
}

// At once, and begun and then finished, by a finish, or by steps of fewer than there are, as many, and more.
func TestP17OperationsOfEachKind(t *testing.T) {
	some := someLines()
	_, ahead := runLines(t, "ahead", some...)
	begun := 0
	for _, text := range opTextsOfEachKind() {
		w, said := wantSaid(t, text, after(some, text)...)
		wantWhole(t, text, w)
		told := said[len(ahead):]
		x, _ := wantSaid(t, text, after(some, "start "+text)...)
		n := len(x.Fs.Todo)
		left := func(n int) string { return fmt.Sprint(n, " left") }
		list := [][]exchange{
			{says("start "+text, told...), says("finish", "0 left"), says("steps 3", "0 left"), says("todo", "0 left")},
		}
		if n > 0 {
			begun++
			list = [][]exchange{
				{says("start "+text, left(n)), says("finish", told...), says("finish", "0 left")},
				{says("start "+text, left(n)), says("list /", "error busy"), says(fmt.Sprint("steps ", n), told...), says("steps 0", "0 left")},
				{says("start "+text, left(n)), says(fmt.Sprint("steps ", n+1), told...), says("todo", "0 left")},
				{says("start "+text, left(n)), says("steps 200", told...), says("steps 200", "0 left")},
				{says("start "+text, left(n)), says("steps 0", left(n)), says(fmt.Sprint("steps ", n-1), left(1)), says("demote", "busy"), says("steps 1", told...)},
				{says("start "+text, left(n)), says("steps 1", left(n-1)), says("steps 4", left(n-5)), says("start list /", "error busy"), says("finish", told...)},
			}
		}
		for _, exchanges := range list {
			lines, want := slices.Clone(some), slices.Clone(ahead)
			for _, x := range exchanges {
				lines, want = append(lines, x.line), append(want, x.said...)
			}
			got, said := wantSaid(t, text, lines...)
			wantLines(t, text, said, want)
			wantWorld(t, text, got, w)
		}
	}
	if begun < 15 {
		t.Errorf("only %d operations had steps", begun)
	}
}

// Each code that an operation may be answered, but for both tiers being full: there are not so many lines.
func TestP17CodesOfOperations(t *testing.T) {
	var makes, links []string
	for k := range 15 {
		makes = append(makes, fmt.Sprintf("make /x%c", 'a'+k))
	}
	for k := range 23 {
		links = append(links, fmt.Sprintf("link /f /x%c", 'a'+k))
	}
	for _, c := range []struct {
		ahead []string
		line  string
		said  string
	}{
		{nil, "make /a", "ok"}, {nil, "make /", "root"}, {nil, "rename / /a", "root"}, {nil, "stat /a", "none"}, {nil, "read /a 0", "none"},
		{someLines(), "make /f", "twice"}, {someLines(), "read /d 0", "dir"}, {someLines(), "make /f/x", "nodir"}, {someLines(), "remove /d", "notempty"}, {someLines(), "rename /d /d/e/x", "loop"}, {someLines(), "cut /f 9", "range"},
		{makes, "make /z", "full"}, {makes, "mkdir /z", "full"}, {makes[:14], "mkdir /z", "ok"}, {append([]string{"make /f"}, links...), "link /f /z", "full"}, {append([]string{"make /f"}, links[:22]...), "link /f /z", "ok"},
		{after(someLines(), "demote"), "make /f", "error busy"}, {after(someLines(), "start make /new"), "make /f", "error busy"}, {after(someLines(), "start make /new"), "make f", "error form"},
		{someLines(), "make /a/b/c/d/e/f/g", "error form"}, {someLines(), "make /sevenaa", "error form"}, {someLines(), "read /f 1000", "range"}, {someLines(), "read /f 1001", "error form"},
	} {
		for _, start := range []string{"", "start "} {
			line := start + c.line
			w, said := wantSaid(t, line, append(slices.Clone(c.ahead), line, "finish")...)
			told := said[len(said)-2]
			if told != c.said && !(c.said == "ok" && start != "" && said[len(said)-1] == "ok") {
				t.Errorf("%q is told %q, not %q", line, told, c.said)
			}
			wantWhole(t, line, w)
		}
	}
}

// With something to be done no operation begins and no move; the other lines are as ever.
func TestP17SomethingToBeDone(t *testing.T) {
	some := someLines()
	for _, ahead := range [][]string{after(some, "start write /f 0 9"), after(some, "start mkdir /new", "steps 20"), after(some, "demote"), after(some, "demote", "steps 4"), after(some, "demote", "finish", "promote", "steps 1")} {
		w, said := runLines(t, "ahead", ahead...)
		if len(w.Fs.Todo) == 0 {
			t.Fatal("nothing is to be done")
		}
		busy := []exchange{says("demote", "busy"), says("promote", "busy")}
		for _, text := range opTextsOfEachKind() {
			busy = append(busy, says(text, "error busy"), says("start "+text, "error busy"))
		}
		for _, x := range busy {
			got, told := runLines(t, x.line, after(ahead, x.line)...)
			wantLines(t, x.line, told, after(said, x.said...))
			wantWorld(t, x.line, got, w)
		}
		for _, line := range []string{"finish", "steps 0", "steps 1", "steps 200", "decay", "crash", "crash 400", "crash 0 1 2", "tree", "todo", "go", "start", "# nothing"} {
			got, _ := wantSaid(t, line, after(ahead, line, "list /", "start list /", "demote", "finish")...)
			wantWhole(t, line, got)
		}
	}
}

// Without anything to be done, steps and a finish say so, and change nothing.
func TestP17NothingToBeDone(t *testing.T) {
	for _, ahead := range [][]string{nil, someLines(), after(someLines(), "demote", "finish"), after(someLines(), "start make /new", "steps 5", "crash")} {
		w, said := runLines(t, "ahead", ahead...)
		for _, line := range []string{"finish", "steps 0", "steps 1", "steps 199", "steps 200", "todo"} {
			got, told := wantSaid(t, line, after(ahead, line, line)...)
			wantLines(t, line, told, after(said, "0 left", "0 left"))
			wantWorld(t, line, got, w)
		}
	}
}

// What is to be done, and the model, ahead of an operation, in its midst and behind it: to ask changes nothing.
func TestP17TodoAndTree(t *testing.T) {
	some := someLines()
	for _, begin := range []string{"start write /f 3 9", "start remove /d/l", "start rename /d /new", "start cut /g 1", "demote", "start list /", "decay"} {
		x, _ := runLines(t, begin, after(some, begin)...)
		plain, _ := runLines(t, "ahead", some...)
		done, _ := runLines(t, begin, after(some, begin, "finish")...)
		n := len(x.Fs.Todo)
		for k := 0; k <= n; k++ {
			lines := after(some, begin, fmt.Sprint("steps ", k))
			w, said := runLines(t, begin, lines...)
			tree, todo := append(textByHand(plain.Model), "agree yes"), []string(nil)
			if k == n {
				tree = append(textByHand(done.Model), "agree yes")
			}
			for _, m := range x.Fs.Todo[k:] {
				text, _ := stepTextByHand(m)
				todo = append(todo, text)
			}
			todo = append(todo, fmt.Sprint(n-k, " left"))
			got, told := wantSaid(t, begin, after(lines, "todo", "tree", "tree", "todo")...)
			wantLines(t, begin, told[len(said):], slices.Concat(todo, tree, tree, todo))
			wantWorld(t, begin, got, w)
		}
	}
	_, said := runLines(t, "a new one", "tree", "todo")
	wantLines(t, "a new one", said, []string{"agree yes", "0 left"})
}

// wantFirst asks that what is said to the first lines is the beginning of what is said to all.
func wantFirst(t *testing.T, where string, lines, said []string) {
	t.Helper()
	for n := range lines {
		_, first := runLines(t, where, lines[:n]...)
		if len(first) > len(said) || !slices.Equal(first, said[:len(first)]) {
			t.Fatalf("%s: what is said to the first %d lines is\n%q, which does not begin\n%q", where, n, first, said)
		}
		wantAsText(t, where, lines[:n], first)
	}
}

func TestP17FirstLines(t *testing.T) {
	d := &dice{state: 171}
	for run := range 6 {
		where := fmt.Sprint("run ", run)
		x := rollLines(t, d, where, mostLines)
		lines := x.lines
		wantFirst(t, where, lines, x.said)
		// Whatever stands behind them.
		n := 1 + d.roll(mostLines-1)
		_, first := runLines(t, where, lines[:n]...)
		for _, behind := range []string{"", "#", "go", "start", "steps 201", "crash", "crash x", "finish", "tree", "todo", "make /a", "start remove /a", "demote", "\x00", strings.Repeat("x", impl.MaxText+1)} {
			_, told := runLines(t, where, after(lines[:n], slices.Repeat([]string{behind}, mostLines-n)...)...)
			if !slices.Equal(told[:min(len(told), len(first))], first) {
				t.Fatalf("%s: with %.60q behind them the first %d lines are told\n%q, not\n%q", where, behind, n, told, first)
			}
		}
	}
	some := after(someLines(), "start make /new", "steps 12", "todo", "crash 1", "tree", "demote", "todo", "steps 3", "x", "", "crash", "promote", "decay", "list /", "tree")
	_, said := runLines(t, "by hand", some...)
	wantFirst(t, "by hand", some, said)
}

// As many lines as there may be, and one more, be they silent or none.
func TestP17MostLines(t *testing.T) {
	for _, line := range []string{"", "#", "  ", "go", "tree", "make /a", "start make /a", "steps 1", "finish", "demote", "promote", "decay", "crash", "todo", "list /"} {
		for _, n := range []int{0, 1, 2, mostLines - 1, mostLines} {
			w, _ := wantSaid(t, fmt.Sprintf("%d times %q", n, line), slices.Repeat([]string{line}, n)...)
			wantWhole(t, line, w)
		}
		for _, n := range []int{mostLines + 1, mostLines + 2, 2 * mostLines, 1000} {
			lines := slices.Repeat([]string{line}, n)
			where := fmt.Sprintf("%d times %q", n, line)
			wantCode(t, where, runLinesCall(lines...), impl.ErrMany)
			wantCode(t, where, consoleCall(ended(lines)), impl.ErrMany)
			wantCode(t, where+", without an end", consoleCall(ended(lines[1:])+line), map[bool]int{true: impl.OK, false: impl.ErrMany}[line == "" && n == mostLines+1])
			for _, at := range []int{0, n / 2, n - 1} {
				lines[at] = "make /b"
				wantCode(t, where, runLinesCall(lines...), impl.ErrMany)
				wantCode(t, where, consoleCall(ended(lines)), impl.ErrMany)
			}
		}
	}
	w, said := wantSaid(t, "60 lines", slices.Repeat([]string{"stat /"}, mostLines)...)
	if len(said) != mostLines || len(w.Answers) != mostLines {
		t.Errorf("of 60 lines %d are said, and there are %d answers", len(said), len(w.Answers))
	}
}

func TestP17LinesOfATextInTurn(t *testing.T) {
	for text, want := range map[string]string{
		"":                            "",
		"\n":                          "",
		"\n\n\n":                      "",
		" ":                           "",
		" \n":                         "",
		"#":                           "",
		"#\n":                         "",
		"tree":                        "agree yes\n",
		"tree\n":                      "agree yes\n",
		"tree\n\n":                    "agree yes\n",
		"\ntree":                      "agree yes\n",
		"\n\ntree\n\n":                "agree yes\n",
		"tree\ntree":                  "agree yes\nagree yes\n",
		"tree\n\ntree\n":              "agree yes\nagree yes\n",
		"tree\n \n#\ntodo":            "agree yes\n0 left\n",
		"make /a\nlist /\n":           "ok\nok a\n",
		"make /a\nlist /":             "ok\nok a\n",
		"make /a\n\nlist /\n\n":       "ok\nok a\n",
		"list /\nmake /a":             "ok\nok\n",
		"# make /a\nlist /":           "ok\n",
		"make\n/a":                    "error form\nerror form\n",
		"make /a\r\nlist /\r\n":       "error form\nerror form\n",
		"make /a\rlist /":             "error form\n",
		"tree\x00":                    "error form\n",
		"\x00":                        "error form\n",
		"\t":                          "error form\n",
		"\t\n\t":                      "error form\nerror form\n",
		"tree\v\n":                    "error form\n",
		"tree\u2028tree":              "error form\n",
		"tree\u0085tree\n":            "error form\n",
		"make /a \n  list   /  \n  ":  "ok\nok a\n",
		"start make /a\nfinish":       "27 left\nok\n",
		"x":                           "error form\n",
		"x\ny\n":                      "error form\nerror form\n",
		"crash\ncrash 1 2\ncrash 401": "ok\nok\nerror form\n",
	} {
		if got, code := impl.Console(text); got != want || code != impl.OK {
			t.Errorf("Console of %q is %q, code %d, not %q", text, got, code, want)
		}
	}
	// Within a list a byte 10 ends no line.
	for _, line := range []string{"make /a\nmake /b", "tree\n", "\ntree", "\n", "list /\n", "finish\ntree", "steps 1\n"} {
		_, said := wantSaid(t, line, line)
		wantLines(t, line, said, []string{"error form"})
	}
	_, said := wantSaid(t, "silent", "#\ntree", "# \n make /a")
	wantLines(t, "silent", said, nil)
}

// Texts of as many bytes as there may be.
func TestP17LongTexts(t *testing.T) {
	for _, c := range []struct{ ahead, filler, behind, want string }{
		{"tree", " ", "", "agree yes\n"},
		{"", " ", "tree", "agree yes\n"},
		{"", " ", "tree\n", "agree yes\n"},
		{"make", " ", "/a\nlist /", "ok\nok a\n"},
		{"start", " ", "list /", "ok\n"},
		{"#", "x", "", ""},
		{"#", "x", "\ntree", "agree yes\n"},
		{"tree\n#", " a", "", "agree yes\n"},
		{"", " ", "", ""},
		{"", "x", "", "error form\n"},
		{"", "x", "\ntree\n", "error form\nagree yes\n"},
		{"crash", " 1", "", "ok\n"},
		{"make /a\ncrash", " 0", "\nlist /\n", "ok\nok\nok a\n"},
		{"crash", " 1", " 401", "error form\n"},
		{"steps ", "0", "", "error form\n"},
	} {
		room := impl.MaxText - len(c.ahead) - len(c.behind)
		// One that does not fit is left out, by a blank that is of no weight.
		text := c.ahead + strings.Repeat(c.filler, room/len(c.filler)) + strings.Repeat(" ", room%len(c.filler)) + c.behind
		if len(text) != impl.MaxText {
			t.Fatalf("the text has %d bytes", len(text))
		}
		if got, code := impl.Console(text); got != c.want || code != impl.OK {
			t.Errorf("Console of %.30q and more is %.90q, code %d, not %q", text, got, code, c.want)
		}
		for _, more := range []string{" ", "\n", "x"} {
			wantCode(t, text[:10], consoleCall(text+more), impl.ErrLong)
			wantCode(t, text[:10], consoleCall(more+text), impl.ErrLong)
		}
	}
	// More lines than a list may have are too many, not too long.
	for _, line := range []string{"\n", "#\n", "x\n", "tree\n"} {
		text := strings.Repeat(line, impl.MaxText/len(line))
		wantCode(t, line, consoleCall(text), impl.ErrMany)
		wantCode(t, line, consoleCall(text+strings.Repeat(line, len(line))), impl.ErrLong)
	}
}

// A line of a list is as long as you like: no bound is told of it.
func TestP17LongLines(t *testing.T) {
	for _, n := range []int{impl.MaxText - 1, impl.MaxText, impl.MaxText + 1, 3 * impl.MaxText} {
		blanks := strings.Repeat(" ", n)
		_, said := runLines(t, "long lines", blanks, "#"+blanks, blanks+"#", "make /a"+blanks, blanks+"write /a 0 5", "read"+blanks+"/a"+blanks+"0", "start"+blanks+"list"+blanks+"/", "tree"+blanks,
			"demote"+blanks, "steps"+blanks+"3", blanks+"todo"+blanks, "finish"+blanks, blanks+"crash"+blanks+"1"+blanks, "go"+blanks, "tree"+blanks+"x", strings.Repeat("x", n), "steps "+strings.Repeat("0", n), "make /"+strings.Repeat("a", n), "crash "+strings.Repeat("1", n))
		wantLines(t, "long lines", said, []string{"ok", "ok", "ok 5", "ok a", "/a file 1: 5", "agree yes", "ok", "2 left", "flush 63", "fence", "2 left", "0 left", "ok", "error form", "error form", "error form", "error form", "error form", "error form"})
	}
	// Nor is a crash's list of numbers bounded.
	for _, keeps := range append(manyKeeps(), make([]int, impl.MaxList), make([]int, impl.MaxList-1)) {
		line := "crash" + strings.TrimRight(" "+strings.Trim(fmt.Sprint(keeps), "[]"), " ")
		for _, c := range []exchange{says(line, "ok"), says(line+" 401", "error form"), says(line+" x", "error form"), says(line+" 0", "ok")} {
			_, said := wantSaid(t, "many keeps", append(someLines(), "start write /f 0 9", "steps 8", c.line)...)
			wantLines(t, "many keeps", said[len(said)-1:], c.said)
		}
	}
}
