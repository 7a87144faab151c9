package tests

import (
	"fmt"
	"slices"
	"strings"
	"testing"

	"loop.example/g00410/impl"
)

// Too long a list is told ahead of too many lines, whatever the lines are.
func TestP1CodesOfLines(t *testing.T) {
	for _, line := range []string{"", "#", "tree", "go", "make /a", strings.Repeat("x", impl.MaxText+1)} {
		for n, code := range map[int]int{0: impl.OK, 1: impl.OK, mostLines: impl.OK, mostLines + 1: impl.ErrMany, impl.MaxList - 1: impl.ErrMany, impl.MaxList: impl.ErrMany, impl.MaxList + 1: impl.ErrLong, 3 * impl.MaxList: impl.ErrLong} {
			wantCode(t, fmt.Sprintf("%d times %.20q", n, line), runLinesCall(slices.Repeat([]string{line}, n)...), code)
		}
	}
}

// Too long a text is told ahead of too many lines, also where each of its lines is short.
func TestP1CodesOfConsoleTexts(t *testing.T) {
	for _, text := range longTexts() {
		wantCode(t, "a long text", consoleCall(text), impl.ErrLong)
	}
	for _, line := range []string{"\n", "#\n", "tree\n", "go\n", "make /a\n", "\n\n", " \n"} {
		for _, n := range []int{0, 1, 30, mostLines + 1, impl.MaxList + 1} {
			text := strings.Repeat(line, n)
			code := impl.OK
			if strings.Count(text, "\n") > mostLines {
				code = impl.ErrMany
			}
			wantCode(t, fmt.Sprintf("%d times %q", n, line), consoleCall(text), code)
			wantCode(t, fmt.Sprintf("%d times %q, and too long", n, line), consoleCall(text+strings.Repeat(" ", impl.MaxText+1-min(len(text), impl.MaxText))), impl.ErrLong)
		}
	}
}

func TestP1ConsolesUntouched(t *testing.T) {
	calls := []asked{runLinesCall(), runLinesCall(""), consoleCall(""), consoleCall("\n"), consoleCall("tree"), runLinesCall("tree"), runLinesCall("list /"), runLinesCall("todo")}
	add := func(lines ...string) {
		calls = append(calls, runLinesCall(lines...), consoleCall(ended(lines)))
	}
	for _, ahead := range beginnings() {
		add(ahead...)
		for _, line := range []string{"tree", "todo", "list /", "start list /", "read /f 0", "steps 2", "finish", "crash", "crash 1 0", "crash 401", "demote", "promote", "decay", "go", "", "#", strings.Repeat(" ", impl.MaxText) + "tree"} {
			add(after(ahead, line)...)
			add(after(ahead, line, "list /", "tree", "todo")...)
		}
	}
	add(slices.Repeat([]string{"tree"}, mostLines+1)...)
	add(slices.Repeat([]string{""}, impl.MaxList+1)...)
	d := &dice{state: 11}
	for range 5 {
		add(rollLines(t, d, "untouched", mostLines).lines...)
	}
	wantPromise1(t, "consoles", calls)
}

// Whatever bytes there are, something is said or nothing, and the call ends.
func TestP1AnyBytes(t *testing.T) {
	d := &dice{state: 12}
	var calls []asked
	for n := range 256 {
		b := string([]byte{byte(n)})
		calls = append(calls, consoleCall(b), consoleCall(b+b), consoleCall("make /a\n"+b), consoleCall(b+"\nmake /a"), consoleCall("make"+b+"/a"), consoleCall("steps "+b), consoleCall("crash "+b), consoleCall("start"+b), runLinesCall(b), runLinesCall(b, b+"x"))
	}
	const some = "  \n\n/ab#01x\t\x00\xff\xc3startmakelink"
	for range 300 {
		var bytes []byte
		for range d.roll(200) {
			bytes = append(bytes, some[d.roll(len(some))])
		}
		lines := strings.Split(string(bytes), "\n")
		lines = lines[:min(len(lines), mostLines)]
		calls = append(calls, consoleCall(ended(lines)), runLinesCall(lines...))
		wantSaid(t, fmt.Sprintf("%.60q", bytes), lines...)
	}
	for _, c := range calls {
		wantCode(t, fmt.Sprintf("%.60q", fmt.Sprint(c.arguments)), c, impl.OK)
	}
	wantPromise1(t, "bytes", calls)
}

// Consoles that run side by side do not hear each other.
func TestP1ConsolesSideBySide(t *testing.T) {
	lines := after(someLines(), "start write /f 0 9", "steps 3", "todo", "demote", "crash 1", "tree", "demote", "finish", "go", "list /")
	w, said := runLines(t, "alone", lines...)
	told := make(chan bool)
	for range 8 {
		go func() {
			same := true
			for range 5 {
				x, list, code := impl.RunLines(lines)
				text, other := impl.Console(ended(lines))
				same = same && code == impl.OK && other == impl.OK && sameWorld(x, w) && slices.Equal(list, said) && text == ended(said)
			}
			told <- same
		}()
	}
	for range 8 {
		if !<-told {
			t.Error("lines are told otherwise beside others")
		}
	}
}
