package tests

import (
	"fmt"
	"regexp"
	"slices"
	"strconv"
	"strings"
	"testing"

	"loop.example/g00410/impl"
)

const mostLines = 60

func runLinesCall(lines ...string) asked { return ask("RunLines", impl.RunLines, lines) }

func consoleCall(text string) asked { return ask("Console", impl.Console, text) }

var (
	silentLine = regexp.MustCompile(`(?s)\A *(?:#.*)?\z`)
	loneLine   = regexp.MustCompile(`\A *(finish|demote|promote|decay|tree|todo) *\z`)
	startLine  = regexp.MustCompile(`(?s)\A *start( .*)\z`)
	stepsLine  = regexp.MustCompile(`\A *steps +([0-9]|[1-9][0-9]|1[0-9][0-9]|200) *\z`)
	crashLine  = regexp.MustCompile(`\A *crash((?: +(?:[0-9]|[1-9][0-9]|[1-3][0-9][0-9]|400))*) *\z`)
)

// actByHand and saidByHand tell chapter 17 a second time.
func actByHand(line string) (impl.Act, bool) {
	if o, ok := readOpByHand(line); ok {
		return opAct(o), true
	}
	if words := startLine.FindStringSubmatch(line); words != nil {
		o, ok := readOpByHand(words[1])
		return startAct(o), ok
	}
	if words := stepsLine.FindStringSubmatch(line); words != nil {
		n, _ := strconv.Atoi(words[1])
		return stepsAct(n), true
	}
	if words := crashLine.FindStringSubmatch(line); words != nil {
		var keeps []int
		for _, word := range strings.Fields(words[1]) {
			n, _ := strconv.Atoi(word)
			keeps = append(keeps, n)
		}
		return crashAct(keeps...), true
	}
	if words := loneLine.FindStringSubmatch(line); words != nil {
		kind, ok := map[string]int{"finish": 4, "demote": 5, "promote": 6, "decay": 7}[words[1]]
		return impl.Act{Kind: kind}, ok
	}
	return impl.Act{}, false
}

func leftByHand(w impl.World) string { return fmt.Sprintf("%d left", len(w.Fs.Todo)) }

func saidByHand(t *testing.T, where string, w impl.World, line string) (impl.World, []string) {
	t.Helper()
	if silentLine.MatchString(line) {
		return w, nil
	}
	switch strings.Trim(line, " ") {
	case "tree":
		return w, append(textByHand(w.Model), map[bool]string{true: "agree yes", false: "agree no"}[w.Agree])
	case "todo":
		var list []string
		for _, m := range w.Fs.Todo {
			text, _ := stepTextByHand(m)
			list = append(list, text)
		}
		return w, append(list, leftByHand(w))
	}
	a, ok := actByHand(line)
	if !ok {
		return w, []string{"error form"}
	}
	after, code := actedByHand(t, where, w, a)
	switch {
	case a.Kind >= 7 && code != impl.OK:
		t.Fatalf("%s: %q has the code %d", where, line, code)
	case a.Kind >= 5:
		return after, []string{impl.CodeWord(code)}
	case code != impl.OK:
		return w, []string{"error " + impl.CodeWord(code)}
	case len(after.Answers) == len(w.Answers):
		return after, []string{leftByHand(after)}
	}
	o := a.Op
	if a.Kind > 2 {
		o = w.Doing
	}
	text, _ := answerTextByHand(o, after.Answers[len(w.Answers)])
	return after, []string{text}
}

// allSaidByHand is of a list of lines on a new world.
func allSaidByHand(t *testing.T, where string, lines []string) (impl.World, []string) {
	t.Helper()
	w := impl.NewWorld()
	var all []string
	for k, line := range lines {
		after, said := saidByHand(t, fmt.Sprintf("%s, line %d, %.60q", where, k, line), w, line)
		w, all = after, append(all, said...)
	}
	return w, all
}

// runLines asks for lines that are not too many.
func runLines(t *testing.T, where string, lines ...string) (impl.World, []string) {
	t.Helper()
	w, said, code := impl.RunLines(lines)
	if code != impl.OK {
		t.Fatalf("%s: RunLines of %d lines has the code %d", where, len(lines), code)
	}
	return w, said
}

func ended(lines []string) string {
	text := ""
	for _, line := range lines {
		text += line + "\n"
	}
	return text
}

func wantLines(t *testing.T, where string, got, want []string) {
	t.Helper()
	for k := range min(len(got), len(want)) {
		if got[k] != want[k] {
			t.Fatalf("%s: what is said %d lines on is %.90q, not %.90q, in\n%.2000q", where, k, got[k], want[k], got)
		}
	}
	if len(got) != len(want) {
		t.Fatalf("%s: %d lines are said, not %d:\n%.2000q, not\n%.2000q", where, len(got), len(want), got, want)
	}
}

func wantConsole(t *testing.T, where, text string, want []string) {
	t.Helper()
	got, code := impl.Console(text)
	if code != impl.OK || got != ended(want) {
		t.Fatalf("%s: Console of %.200q has the code %d, and is\n%.2000q, not\n%.2000q", where, text, code, got, ended(want))
	}
}

// wantAsText asks Console for the same lines, if they are a text's: with what ends the last one, and without.
func wantAsText(t *testing.T, where string, lines, want []string) {
	t.Helper()
	text := ended(lines)
	if len(text) > impl.MaxText || strings.Count(text, "\n") != len(lines) {
		return
	}
	wantConsole(t, where, text, want)
	if len(lines) > 0 && lines[len(lines)-1] != "" {
		wantConsole(t, where+", without an end", text[:len(text)-1], want)
	}
}

// wantSaid asks what lines do and what is said of them, one way and the other.
func wantSaid(t *testing.T, where string, lines ...string) (impl.World, []string) {
	t.Helper()
	w, said := runLines(t, where, lines...)
	want, wanted := allSaidByHand(t, where, lines)
	wantLines(t, where, said, wanted)
	wantWorld(t, where, w, want)
	wantAsText(t, where, lines, wanted)
	return w, said
}

// wantWhole is promise 18 of a world that a console has left.
func wantWhole(t *testing.T, where string, w impl.World) {
	t.Helper()
	if !impl.WorldOK(w) || !w.Agree {
		t.Fatalf("%s: the world is not right, or agree is %v", where, w.Agree)
	}
	wantAgrees(t, where, w, true)
	f, code := impl.FinishFs(w.Fs)
	if code != impl.OK {
		t.Fatalf("%s: it can't be finished, code %d", where, code)
	}
	wantSure(t, where+", finished", f, true)
	wantAudited(t, where+", finished", f.Devices)
	done := agreeing(t, where+", finished", w, finishAct())
	wantSure(t, where+", finished", done.Fs, true)
	if len(w.Fs.Todo) == 0 {
		wantSure(t, where, w.Fs, true)
		wantAudited(t, where, w.Fs.Devices)
		return
	}
	wantSure(t, where, w.Fs, false)
	if sees := imageSeen(w.Fs.Devices); sees {
		wantAccounted(t, where, w.Fs.Devices)
	}
}

// imageSeen is whether there is a right image in what is loaded: in the midst of steps there may be none.
func imageSeen(d impl.Devices) bool {
	_, code := impl.ModelOf(d)
	return code == impl.OK
}

// someLines are ahead of what a test is of: two directories, three files, of one page, of three and of none, and another name of the first.
func someLines() []string {
	return []string{"mkdir /d", "mkdir /d/e", "make /f", "make /g", "make /d/h", "link /f /d/l", "write /f 0 5", "write /g 0 6", "write /g 1 7", "write /g 2 8"}
}

func after(lines []string, more ...string) []string { return slices.Concat(lines, more) }

// opTextsOfEachKind are operations on what someLines leave: they begin with steps, or are answered at once.
func opTextsOfEachKind() []string {
	return []string{
		"make /new", "make /f", "make /nobody/new", "make /f/new", "make /", "mkdir /new", "mkdir /d", "mkdir /d/e/new",
		"remove /f", "remove /g", "remove /d/e", "remove /d", "remove /nobody", "remove /",
		"link /f /new", "link /d /new", "link /f /g", "link /nobody /new", "rename /f /new", "rename /d /d/e/new", "rename /d /new", "rename /f /g", "rename /nobody /new",
		"write /f 0 9", "write /f 7 1099511627775", "write /g 2 0", "write /g 8 1", "write /g 1000 1", "write /d 0 1", "write /nobody 0 1",
		"cut /g 1", "cut /g 0", "cut /f 8", "cut /f 9", "cut /f 1000", "cut /d 0", "cut /nobody 0",
		"read /f 0", "read /d/l 0", "read /g 2", "read /g 3", "read /g 1000", "read /d 0", "read /nobody 0",
		"stat /f", "stat /g", "stat /d", "stat /", "stat /d/h", "stat /nobody", "stat /f/x", "list /", "list /d", "list /d/e", "list /f", "list /nobody",
	}
}

// silentLines say nothing.
func silentLines() []string {
	return []string{
		"", " ", "     ", strings.Repeat(" ", 1000), "#", "##", "# ", " #", "   # make /a", "#make /a", "# make /a", "#finish", "#\t", "#\x00", "#\xff", "#é", "#\r", "#crash 401", "####### # #",
		"#" + strings.Repeat("a", 1000), strings.Repeat(" ", 1000) + "#" + strings.Repeat(" b", 1000),
	}
}

// otherBytes are no blanks, though some of them look so.
func otherBytes() []string {
	return []string{"\t", "\v", "\f", "\r", "\x00", "\x1f", "!", "\x7f", "\x80", "\xa0", "\u00a0", "\u0085", "\u2003", "\u3000", "\ufeff", "\xff", ",", "-", "_", "0", "a", "/", "#"}
}

// wrongForms are lines that are none, whatever the world is.
func wrongForms() []string {
	list := []string{
		"start", "start ", " start", "start start", "start start make /a", "start finish", "start steps 3", "start demote", "start promote", "start decay", "start crash", "start tree", "start todo",
		"start go", "start /a", "start 3", "start #", "start # make /a", "start make", "start make a", "start make /a /b", "start write /a 0", "start write /a 0 -1", "start read /a x", "start ok", "make start /a", "make /a start",
		"steps", "steps ", "steps 1 2", "steps 1 1 1", "steps x", "steps 3x", "steps -1", "steps 201", "steps 202", "steps 2000", "steps 1000000", "steps /a", "steps 3 #", "steps # 3", "3 steps", "steps steps", "steps steps 3", "steps3", "step 3",
		"crash x", "crash -1", "crash 401", "crash 402", "crash 4000", "crash 0 x", "crash x 0", "crash 0 -1", "crash 401 0", "crash 0 1 2 3 4 5 6 7 8 9 401", "crash 0 /a", "crash #", "crash 1 # 2", "crash crash", "crash crash 1", "1 crash", "crash1", "crash 1,2",
		"go", "help", "x", "/", "/a", "0", "3", "-1", "ok", "error", "error form", "left", "3 left", "agree", "agree yes", "act", "world", "store 1 2", "flush 1", "fence", "barrier", "touch /a 0",
		"/a make", "!", "'make /a'", "\"make /a\"", "make /a;", "make /a; make /b", "make /a #", "tree # all", "; finish", "//", "-- finish",
	}
	for _, word := range []string{"finish", "demote", "promote", "decay", "tree", "todo"} {
		list = append(list, word+" x", word+" 0", word+" 1", word+" /", word+" /a", word+" #", word+" "+word, "x "+word, word+"x", word+"0", word+"#", word+":", word[:len(word)-1], "start "+word)
	}
	for _, word := range append(kindWords()[1:], "start", "finish", "steps", "demote", "promote", "decay", "crash", "tree", "todo") {
		capital := strings.ToUpper(word[:1]) + word[1:]
		for _, behind := range []string{"", " /a", " /a /b", " /a 0", " /a 0 0", " 0", " make /a"} {
			list = append(list, strings.ToUpper(word)+behind, capital+behind, word+"!"+behind)
		}
	}
	return append(list, wrongWords()...)
}

// wrongWords are made of lines that are some, by other words and by other bytes in them.
func wrongWords() []string {
	var list []string
	for _, number := range append(noNumbers(), "-1", "401", "1099511627776", "1000000000000000000", "18446744073709551616") {
		// Those that have a byte that ends a line are asked as lines of a list.
		list = append(list, "steps "+number, "crash "+number, "crash 0 "+number+" 1", "start cut /f "+number+"x")
	}
	for _, other := range otherBytes() {
		list = append(list, "steps"+other+"3", "crash"+other+"3x", "make"+other+"/a", "start"+other+"make /a", "start make"+other+"/a", "start list /f/"+other+"/",
			"tree"+other, "todo"+other, "finish"+other, "demote"+other, "promote"+other, "decay"+other, "crash"+other)
		if other != "#" {
			list = append(list, other+"tree", other+"todo", other+"finish", other+"steps 3", other+"list /", other+"start list /", other, other+" tree")
		}
	}
	for _, path := range noPaths() {
		if !strings.Contains(path, " ") && path != "" {
			list = append(list, "make "+path, "start list "+path, "link /f "+path)
		}
	}
	for _, number := range []string{"-1", "1001", "1000000", "99999999999999999999"} {
		list = append(list, "read /f "+number, "start cut /f "+number, "write /f "+number+" 0")
	}
	for _, number := range []string{"-1", "1099511627776", "99999999999999999999"} {
		list = append(list, "write /f 0 "+number, "start write /f 0 "+number)
	}
	return list
}

// beginnings leave a world at rest, in the midst of an operation or a move, and behind a crash.
func beginnings() [][]string {
	some := someLines()
	return [][]string{
		nil,
		some,
		after(some, "start write /f 0 9"),
		after(some, "start remove /g", "steps 11"),
		after(some, "demote", "steps 2"),
		after(some, "demote", "finish", "promote"),
		after(some, "start make /new", "steps 9", "crash 1 0"),
	}
}

// rollLine is of a kind by dice; now and then it is none, or says nothing.
func rollLine(d *dice, w impl.World) string {
	pick := func(list []string) string { return list[d.roll(len(list))] }
	switch n := d.roll(32); {
	case n < 10:
		return rollOpLine(d, w)
	case n < 15:
		return "start " + rollOpLine(d, w)
	case n < 19:
		return fmt.Sprint("steps ", d.roll(16))
	case n == 19:
		return fmt.Sprint("steps ", d.roll(mostTodo+1))
	case n == 20:
		return "finish"
	case n < 23:
		return "demote"
	case n < 25:
		return "promote"
	case n == 25:
		return "decay"
	case n < 29:
		return strings.Trim(fmt.Sprintln("crash", strings.Trim(fmt.Sprint(rollKeeps(d)), "[]")), " \n")
	case n == 29:
		return pick([]string{"tree", "todo"})
	case n == 30:
		return pick(silentLines())
	}
	return pick(wrongForms())
}

// rollOpLine has the paths that there are; numbers that have no text make it none.
func rollOpLine(d *dice, w impl.World) string {
	o := rollOpOf(d, w.Fs)
	if text, ok := opTextByHand(o); ok {
		return text
	}
	return fmt.Sprintf("%s %s %d", kindWords()[o.Kind], o.Path, o.Page)
}

// rolledLines are lines with what by hand is there behind them, all that is said, and what came of each.
type rolledLines struct {
	lines []string
	world impl.World
	said  []string
	kinds []string
}

// rollLines are rolled one behind the other, each of what the ones ahead of it leave.
func rollLines(t *testing.T, d *dice, where string, n int) rolledLines {
	t.Helper()
	x := rolledLines{world: impl.NewWorld()}
	for range n {
		line := rollLine(d, x.world)
		after, said := saidByHand(t, fmt.Sprintf("%s, %.60q", where, line), x.world, line)
		x.lines, x.said, x.kinds = append(x.lines, line), append(x.said, said...), append(x.kinds, kindSaid(x.world, line, said))
		x.world = after
	}
	return x
}

// kindSaid tells which line it is, and what came of it.
func kindSaid(w impl.World, line string, said []string) string {
	outcome := "done"
	switch last := strings.Join(said[max(0, len(said)-1):], ""); {
	case last == "":
		return "nothing"
	case last == "error form":
		return last
	case last == "error busy":
		outcome = "refused"
	case strings.HasSuffix(last, " left"):
		outcome = "left"
	}
	switch first := strings.Fields(line)[0]; first {
	case "tree", "todo":
		return first
	case "demote", "promote", "decay":
		return first + ", " + said[0]
	case "crash":
		if len(w.Fs.Todo) > 0 {
			return "crash in the midst, " + said[0]
		}
		return "crash, " + said[0]
	case "start", "steps", "finish":
		return first + ", " + outcome
	}
	return "an operation, " + outcome
}
