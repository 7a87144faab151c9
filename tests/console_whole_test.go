package tests

import (
	"fmt"
	"slices"
	"strings"
	"testing"

	"loop.example/g00410/impl"
)

// Rolled lines of all kinds: what is said and left is as by hand, and promise 18 holds of what the first lines leave, and of what all leave.
func TestP18RolledLines(t *testing.T) {
	d := &dice{state: 181}
	count := map[string]int{}
	for run := range 60 {
		where := fmt.Sprint("run ", run)
		x := rollLines(t, d, where, mostLines-d.roll(3))
		w, said := runLines(t, where, x.lines...)
		wantLines(t, where, said, x.said)
		wantWorld(t, where, w, x.world)
		wantWhole(t, where, w)
		wantAsText(t, where, x.lines, x.said)
		for range 6 {
			n := d.roll(len(x.lines))
			first, _ := runLines(t, where, x.lines[:n]...)
			wantWhole(t, fmt.Sprint(where, ", ", n, " lines"), first)
		}
		for _, kind := range x.kinds {
			count[kind]++
		}
	}
	for _, kind := range []string{
		"an operation, done", "an operation, refused", "start, done", "start, left", "start, refused", "steps, left", "steps, done", "finish, left", "finish, done",
		"demote, ok", "demote, busy", "demote, none", "promote, ok", "promote, busy", "promote, none", "decay, ok", "crash, ok", "crash in the midst, ok", "tree", "todo", "nothing", "error form",
	} {
		if count[kind] < 5 {
			t.Errorf("%q came only %d times: %v", kind, count[kind], count)
		}
	}
	if count["an operation, left"] > 0 {
		t.Errorf("operations that were done at once left steps: %v", count)
	}
}

// someKeeps lose all, keep all, and keep some.
func someKeeps() []string {
	return []string{"", " 0", " 400", " 1", " 0 400", " 400 0 0", " 1 0 2 400 3"}
}

// Wherever it crashes, whatever survives: what is there is as ahead of what was in the midst, or as behind it, and the tree tells which.
func TestP18CrashBehindEachStep(t *testing.T) {
	some := someLines()
	done, undone := 0, 0
	for _, begin := range []string{"start make /new", "start mkdir /d/new", "start remove /f", "start remove /d/h", "start link /f /new", "start rename /d /new", "start write /f 0 9", "start write /g 7 9", "start cut /g 1", "demote", "promote"} {
		ahead := some
		if begin == "promote" {
			ahead = after(some, "demote", "finish")
		}
		_, first := runLines(t, begin, ahead...)
		_, before := runLines(t, begin, after(ahead, "tree")...)
		x, begun := runLines(t, begin, after(ahead, begin)...)
		_, finished := runLines(t, begin, after(ahead, begin, "finish", "tree")...)
		before, behind := before[len(first):], finished[len(begun)+1:]
		n := len(x.Fs.Todo)
		if n == 0 {
			t.Fatalf("%q has no steps", begin)
		}
		for k := 0; k < n; k++ {
			keeps := someKeeps()[k%len(someKeeps())]
			lines := after(ahead, begin, fmt.Sprint("steps ", k), "crash"+keeps)
			where := fmt.Sprintf("%q behind %d steps, keeps%s", begin, k, keeps)
			w, said := runLines(t, where, after(lines, "tree", "todo")...)
			said = said[len(begun)+2:]
			switch tree := said[:len(said)-1]; {
			case slices.Equal(tree, before):
				undone++
			case slices.Equal(tree, behind):
				done++
			default:
				t.Fatalf("%s: the tree is\n%q, neither\n%q nor\n%q", where, tree, before, behind)
			}
			if said[len(said)-1] != "0 left" || tree(w) != strings.Join(said[:len(said)-1], "\n") {
				t.Fatalf("%s: something is left to be done, or the tree is not what is there: %q", where, said)
			}
			wantWhole(t, where, w)
			if k%5 == 0 {
				wantSaid(t, where, after(lines, "crash", "list /", "demote", "finish", "tree")...)
			}
		}
	}
	if done < 20 || undone < 20 {
		t.Errorf("%d crashes left what was in the midst done, %d undone", done, undone)
	}
}

// tree is told by what is on the devices of a world at rest that agrees.
func tree(w impl.World) string {
	m, _ := impl.ModelOf(w.Fs.Devices)
	lines, _ := impl.ModelText(m)
	return strings.Join(append(lines, "agree yes"), "\n")
}

// The same operations are told the same, whatever moves, crashes and steps are among them.
func TestP18MovesAreNotSeen(t *testing.T) {
	operations := []string{"make /a", "mkdir /d", "write /a 0 5", "write /a 1 6", "link /a /d/b", "read /d/b 1", "write /a 0 7", "stat /a", "make /d/c", "write /d/c 3 8", "remove /a", "read /d/b 0", "cut /d/b 1", "list /d", "rename /d/b /e", "read /e 0", "read /a 0"}
	_, plain := wantSaid(t, "plain", operations...)
	d := &dice{state: 182}
	moves := 0
	for run := range 60 {
		var lines []string
		var answers []int
		said := 0
		for k, o := range operations {
			start := d.roll(3) == 0
			for room := mostLines - len(lines) - 4*(len(operations)-k); room > 0 && d.roll(3) > 0; room -= 3 {
				lines = append(lines, [][]string{{"demote", "finish", "decay"}, {"promote", "steps 200", "crash"}, {"demote", "steps 2", "crash 1"}, {"promote", "steps 3", "crash 0 400"}, {"crash", "decay", "decay"}}[d.roll(5)]...)
				said, moves = said+3, moves+1
			}
			if start {
				lines, said = append(lines, "start "+o), said+1
				if plain[k] == "ok" {
					lines, said = append(lines, fmt.Sprint("steps ", d.roll(5)), "demote", "finish"), said+3
				}
			} else {
				lines, said = append(lines, o), said+1
			}
			answers = append(answers, said-1)
		}
		where := fmt.Sprint("run ", run)
		w, all := runLines(t, where, lines...)
		wantWhole(t, where, w)
		for k, at := range answers {
			if all[at] != plain[k] {
				t.Fatalf("%s: %q is told %q, not %q, among\n%q", where, operations[k], all[at], plain[k], lines)
			}
		}
	}
	if moves < 200 {
		t.Errorf("there were only %d moves", moves)
	}
}

// As many pages as there are in the memory, then some on sectors: then nothing can move up.
func TestP18FullMemory(t *testing.T) {
	lines := []string{"make /a", "make /b", "make /c", "make /d"}
	for k := range 24 {
		lines = append(lines, fmt.Sprintf("write /%c %d %d", 'a'+k/8, k%8, 100+k))
	}
	want := slices.Repeat([]string{"ok"}, len(lines))
	w, said := wantSaid(t, "24 pages", lines...)
	wantLines(t, "24 pages", said, want)
	wantWhole(t, "24 pages", w)
	wantTiers(t, "24 pages", w.Fs.Devices, 24, 0, 0)
	for k := range 8 {
		lines, want = append(lines, fmt.Sprintf("write /d %d %d", k, 200+k)), append(want, "ok")
		w, said := wantSaid(t, "sectors", append(slices.Clone(lines), "promote", "todo", "tree")...)
		wantLines(t, "sectors", said[:len(want)+2], append(slices.Clone(want), "full", "0 left"))
		wantTiers(t, "sectors", w.Fs.Devices, 24, k+1, 0)
		wantWhole(t, "sectors", w)
	}
	lines = append(lines, "demote", "finish", "promote", "steps 3", "crash 1", "write /a 0 9", "read /d 7", "read /d 0", "read /c 7", "demote", "steps 4", "crash 0", "promote", "finish", "crash", "read /a 0")
	w, said = wantSaid(t, "moves", lines...)
	wantLines(t, "moves", said[len(said)-8:], []string{"ok 123", "ok", "1 left", "ok", "full", "0 left", "ok", "ok 9"})
	wantWhole(t, "moves", w)
}

// In the midst, too, and whatever stands in the lines: texts of all bytes, and lines put together of words that have a meaning.
func TestP18RolledWords(t *testing.T) {
	d := &dice{state: 183}
	words := append(kindWords()[1:], "start", "finish", "steps", "demote", "promote", "decay", "crash", "tree", "todo", "#", "#x", "/", "/a", "/a", "/a", "/b", "/b/a", "0", "0", "1", "1", "2", "5", "200", "400", "401", "-1", "01", "x", "\t", "\xff")
	count := map[string]int{}
	for run := range 150 {
		lines := []string{"make /a", "mkdir /b", "write /a 0 5", "start write /a 0 6", "steps 1"}
		for len(lines) < mostLines {
			line := ""
			for range d.roll(6) {
				line += words[d.roll(len(words))] + strings.Repeat(" ", 1+d.roll(2)*d.roll(3))
			}
			lines = append(lines, line)
		}
		where := fmt.Sprint("run ", run)
		w, said := runLines(t, where, lines...)
		wantWhole(t, where, w)
		for _, x := range said {
			count[x]++
		}
		if run%10 == 0 {
			wantSaid(t, where, lines...)
		}
	}
	for _, x := range []string{"error form", "error busy", "ok", "busy"} {
		if count[x] < 20 {
			t.Errorf("%q was said only %d times", x, count[x])
		}
	}
}
