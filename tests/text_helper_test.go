package tests

import (
	"fmt"
	"regexp"
	"slices"
	"strconv"
	"strings"
	"testing"

	"loop.example/g00410/impl"
)

const mostTold = 1000

func opTextCall(o impl.Op) asked { return ask("OpText", impl.OpText, o) }

func readOpCall(text string) asked { return ask("ReadOp", impl.ReadOp, text) }

func answerTextCall(o impl.Op, a impl.Answer) asked {
	return ask("AnswerText", impl.AnswerText, o, a)
}

func microTextCall(m impl.Micro) asked { return ask("MicroText", impl.MicroText, m) }

func planTextCall(list ...impl.Micro) asked { return ask("PlanText", impl.PlanText, list) }

const (
	nameText  = `[a-z]{1,6}`
	pathText  = `(/|(?:/` + nameText + `){1,6})`
	pageText  = `(0|[1-9][0-9]{0,2}|1000)`
	valueText = `(0|[1-9][0-9]{0,12})`
)

var (
	wholePath = regexp.MustCompile(`\A` + pathText + `\z`)
	wholeName = regexp.MustCompile(`\A` + nameText + `\z`)

	opTexts = []*regexp.Regexp{
		regexp.MustCompile(`\A *(make|mkdir|remove|stat|list) +` + pathText + ` *\z`),
		regexp.MustCompile(`\A *(link|rename) +` + pathText + ` +` + pathText + ` *\z`),
		regexp.MustCompile(`\A *(cut|read) +` + pathText + ` +` + pageText + ` *\z`),
		regexp.MustCompile(`\A *(write) +` + pathText + ` +` + pageText + ` +` + valueText + ` *\z`),
	}
)

// kindWords are by the kinds of operations.
func kindWords() []string {
	return []string{"", "make", "mkdir", "remove", "link", "rename", "write", "cut", "read", "stat", "list"}
}

func isWordByHand(n int) bool { return n >= 0 && n <= 1099511627775 }

// opTextByHand, readOpByHand, answerTextByHand and stepTextByHand tell chapter 16 a second time.
func opTextByHand(o impl.Op) (string, bool) {
	to, page, value, _ := usesByHand(o.Kind)
	if !isOpByHand(o) || !wholePath.MatchString(o.Path) || to && !wholePath.MatchString(o.To) || o.Page < 0 || o.Page > mostTold || !isWordByHand(o.Value) {
		return "", false
	}
	text := kindWords()[o.Kind] + " " + o.Path
	if to {
		text += " " + o.To
	}
	if page {
		text += fmt.Sprintf(" %d", o.Page)
	}
	if value {
		text += fmt.Sprintf(" %d", o.Value)
	}
	return text, true
}

func readOpByHand(text string) (impl.Op, bool) {
	for shape, whole := range opTexts {
		words := whole.FindStringSubmatch(text)
		if words == nil {
			continue
		}
		o := impl.Op{Kind: slices.Index(kindWords(), words[1]), Path: words[2]}
		switch shape {
		case 1:
			o.To = words[3]
		case 3:
			o.Value, _ = strconv.Atoi(words[4])
			fallthrough
		case 2:
			o.Page, _ = strconv.Atoi(words[3])
		}
		return o, isWordByHand(o.Value)
	}
	return impl.Op{}, false
}

func answerTextByHand(o impl.Op, a impl.Answer) (string, bool) {
	if !isOpByHand(o) || a.Code < 0 || a.Code > 19 || !isWordByHand(a.Value) || len(a.Names) > 24 {
		return "", false
	}
	for _, name := range a.Names {
		if !wholeName.MatchString(name) {
			return "", false
		}
	}
	switch {
	case a.Code != 0:
		return impl.CodeWord(a.Code), true
	case o.Kind == 8:
		return fmt.Sprintf("ok %d", a.Value), true
	case o.Kind == 9:
		kind := "file"
		if a.Value >= 200 && a.Value <= 299 {
			kind = "dir"
		}
		digits := fmt.Sprintf("%03d", a.Value)
		last := len(digits) - 1
		return fmt.Sprintf("ok %s %c %c", kind, digits[last-1], digits[last]), true
	case o.Kind == 10:
		return strings.Join(append([]string{"ok"}, a.Names...), " "), true
	}
	return "ok", true
}

func stepTextByHand(m impl.Micro) (string, bool) {
	var text string
	var places, values int
	switch m.Kind {
	case 1:
		text, places, values = fmt.Sprintf("store %d %d", m.At, m.Value), 336, 1<<40
	case 2:
		text, places, values = fmt.Sprintf("flush %d", m.At), 336, 1
	case 3:
		text, places, values = "fence", 1, 1
	case 4:
		text, places, values = fmt.Sprintf("write %d %d", m.At, m.Value), 32, 1<<40
	case 5:
		text, places, values = "barrier", 1, 1
	}
	return text, m.At >= 0 && m.At < places && m.Value >= 0 && m.Value < values
}

// wantOpText asks for an operation's text, and that it is read back; or that there is none.
func wantOpText(t *testing.T, o impl.Op) bool {
	t.Helper()
	want, ok := opTextByHand(o)
	if !ok {
		wantCode(t, fmt.Sprintf("%.90q", fmt.Sprintf("%+v", o)), opTextCall(o), impl.ErrBad)
		return false
	}
	if text, code := impl.OpText(o); text != want || code != impl.OK {
		t.Fatalf("OpText of %+v is %q, code %d, not %q", o, text, code, want)
	}
	if back, code := impl.ReadOp(want); back != o || code != impl.OK {
		t.Fatalf("ReadOp of %q is %+v, code %d, not %+v", want, back, code, o)
	}
	return true
}

// wantReadOp asks for the operation of a text, and that it is told again with one blank between words; or that there is none.
func wantReadOp(t *testing.T, text string) bool {
	t.Helper()
	want, ok := readOpByHand(text)
	if !ok {
		wantCode(t, fmt.Sprintf("%.90q", text), readOpCall(text), impl.ErrForm)
		return false
	}
	if o, code := impl.ReadOp(text); o != want || code != impl.OK {
		t.Fatalf("ReadOp of %.90q is %+v, code %d, not %+v", text, o, code, want)
	}
	told := strings.Join(strings.Fields(text), " ")
	if again, code := impl.OpText(want); again != told || code != impl.OK {
		t.Fatalf("OpText of %+v is %q, code %d, not %q", want, again, code, told)
	}
	return true
}

func wantAnswerText(t *testing.T, o impl.Op, a impl.Answer) bool {
	t.Helper()
	want, ok := answerTextByHand(o, a)
	if !ok {
		wantCode(t, fmt.Sprintf("%.90q, %.90q", fmt.Sprintf("%+v", o), fmt.Sprintf("%+v", a)), answerTextCall(o, a), impl.ErrBad)
		return false
	}
	if text, code := impl.AnswerText(o, a); text != want || code != impl.OK {
		t.Fatalf("AnswerText of %+v, %+v is %q, code %d, not %q", o, a, text, code, want)
	}
	return true
}

// wantPlanText asks for the texts of steps one by one and all at once; or that there is none of them.
func wantPlanText(t *testing.T, where string, list ...impl.Micro) bool {
	t.Helper()
	var want []string
	all := true
	for _, m := range list {
		text, ok := stepTextByHand(m)
		want, all = append(want, text), all && ok
		if !ok {
			wantCode(t, fmt.Sprintf("%s, %+v", where, m), microTextCall(m), impl.ErrBad)
			continue
		}
		if got, code := impl.MicroText(m); got != text || code != impl.OK {
			t.Fatalf("%s: MicroText of %+v is %q, code %d, not %q", where, m, got, code, text)
		}
	}
	if !all {
		wantCode(t, where, planTextCall(list...), impl.ErrBad)
		return false
	}
	if got, code := impl.PlanText(list); !slices.Equal(got, want) || code != impl.OK {
		t.Fatalf("%s: PlanText is %q, code %d, not %q", where, got, code, want)
	}
	return true
}

// opsOn are of each kind that has use for a path alone, for two, and for a path and numbers.
func opsOn(path, to string, page, value int) []impl.Op {
	return []impl.Op{
		makeOp(path), mkdirOp(path), removeOp(path), statOp(path), listOp(path),
		linkOp(path, to), renameOp(path, to),
		cutOp(path, page), readOp(path, page), writeOp(path, page, value),
	}
}

func somePaths() []string {
	list := []string{"/", "/a/zzzzzz", "/zzzzzz/a", "/abcdef/b/ghijkl"}
	for names := 1; names <= mostNames; names++ {
		list = append(list, depthsOf(names)...)
	}
	return list
}

// noNumbers are texts that are no numbers; none is a word more, none a word less.
func noNumbers() []string {
	return []string{
		"-", "+", "--", "+-", "+1", "+0", "-0", "-00", "00", "01", "007", "-01", "--1", "-+1", "1-", "1+", "0-", "1-1",
		"a", "1a", "a1", "1a1", "x", "0x1", "0b1", "0o7", "1e3", "1E3", "1.0", "1.", ".5", "1,0", "1_0", "_1", "1_", "inf", "nan", "1/1", "/1",
		"\t1", "1\t", "1\n", "\n", "1\x00", "\x00", "1\r", "\v1", "1\f", "\u00a01", "1\u00a0", "\u20031", "\ufeff1", "\xff", "1\xff",
		"１", "٣", "²", "½", "−1", "一", "O", "l",
		"0000000000000000001", "00000000000000000000", strings.Repeat("0", 18), strings.Repeat("0", 4000),
	}
}

// numbersBeyond are numbers, and texts of more digits than a number has, that are no pages and no words.
func numbersBeyond() []string {
	return []string{
		"-1", "-2", "-7", "-1000", "-1099511627776", "1099511627776", "1099511627777", "10000000000000", "9999999999999",
		"100000000000000000", "123456789012345678", "999999999999999999", "-999999999999999999",
		"1000000000000000000", "9223372036854775807", "9223372036854775808", "-9223372036854775808", "-9223372036854775809",
		"18446744073709551615", "18446744073709551616", "18446744073709551617", "36893488147419103232", "340282366920938463463374607431768211456", "340282366920938463463374607431768211457",
		"1" + strings.Repeat("0", 4000), strings.Repeat("9", 30000),
	}
}

// rollSayable is an operation that may have a text and may have none.
func rollSayable(d *dice) impl.Op {
	number := func(list ...int) int { return list[d.roll(len(list))] }
	path := func() string {
		if d.roll(12) == 0 {
			return []string{"", "a", "//", "/a/", "/A", "/sevenaa", "/a b", "/a/b/c/d/e/f/g"}[d.roll(8)]
		}
		return somePaths()[d.roll(len(somePaths()))]
	}
	page := number(0, 1, d.roll(8), d.roll(1001), 999, 1000, 1001, -1)
	value := number(0, 1, d.roll(1<<30), impl.MaxWord-1, impl.MaxWord-1-d.roll(1<<30), d.roll(10), impl.MaxWord, -1)
	list := opsOn(path(), path(), page, value)
	o := list[d.roll(len(list))]
	switch d.roll(24) {
	case 0:
		o.To = path()
	case 1:
		o.Page = page
	case 2:
		o.Value = value
	case 3:
		o.Kind = d.roll(14) - 1
	}
	return o
}

// rollOpText is a text that may be an operation's: words in some order, and bytes between them.
func rollOpText(d *dice) string {
	o := rollSayable(d)
	text := fmt.Sprint(kindWords()[max(0, min(10, o.Kind))], " ", o.Path)
	to, page, value, _ := usesByHand(o.Kind)
	if to != (d.roll(16) == 0) {
		text += " " + o.To
	}
	if page != (d.roll(16) == 0) {
		text += fmt.Sprint(" ", o.Page)
	}
	if value != (d.roll(16) == 0) {
		text += fmt.Sprint(" ", o.Value)
	}
	for range d.roll(4) {
		at := d.roll(len(text) + 1)
		between := []string{" ", " ", "  ", "\t", "\n", "0", "/", "a", "-", "A"}[min(d.roll(60), 9)]
		if d.roll(3) > 0 {
			// A blank more beside one that is there changes nothing.
			at, between = max(0, strings.LastIndexByte(text[:at], ' ')), "  "
		}
		text = text[:at] + between + text[at:]
	}
	return text
}
