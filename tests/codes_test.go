package tests

import (
	"math"
	"strings"
	"testing"

	"loop.example/g00410/impl"
)

func TestP1Limits(t *testing.T) {
	if impl.MaxText != 65536 || impl.MaxList != 4096 || impl.MaxName != 40 {
		t.Error("limits of chapter 1", impl.MaxText, impl.MaxList, impl.MaxName)
	}
	if impl.PmSize != 336 || impl.LineSize != 8 || impl.MaxWord != 1099511627776 {
		t.Error("limits of chapter 2", impl.PmSize, impl.LineSize, impl.MaxWord)
	}
}

func TestP1CodesAndWords(t *testing.T) {
	codes := []struct {
		number, constant int
		word             string
	}{
		{0, impl.OK, "ok"}, {1, impl.ErrBad, "bad"}, {2, impl.ErrLong, "long"}, {3, impl.ErrForm, "form"},
		{4, impl.ErrRange, "range"}, {5, impl.ErrNone, "none"}, {6, impl.ErrMany, "many"}, {7, impl.ErrFull, "full"},
		{8, impl.ErrTwice, "twice"}, {9, impl.ErrDir, "dir"}, {10, impl.ErrNoDir, "nodir"},
		{11, impl.ErrNotEmpty, "notempty"}, {12, impl.ErrName, "name"}, {13, impl.ErrLoop, "loop"},
		{14, impl.ErrPlace, "place"}, {15, impl.ErrBusy, "busy"}, {16, impl.ErrIdle, "idle"},
		{17, impl.ErrOrder, "order"}, {18, impl.ErrLinks, "links"}, {19, impl.ErrRoot, "root"},
	}
	for _, c := range codes {
		if c.constant != c.number {
			t.Errorf("the constant of %q is %d, not %d", c.word, c.constant, c.number)
		}
		if got := impl.CodeWord(c.number); got != c.word {
			t.Errorf("CodeWord(%d) = %q, not %q", c.number, got, c.word)
		}
		if got := impl.CodeOf(c.word); got != c.number {
			t.Errorf("CodeOf(%q) = %d, not %d", c.word, got, c.number)
		}
	}
}

func TestP1NumbersThatAreNoCodes(t *testing.T) {
	for _, n := range []int{-1, -2, -19, 20, 21, 256, 1 << 32, math.MinInt, math.MaxInt} {
		if got := impl.CodeWord(n); got != "" {
			t.Errorf("CodeWord(%d) = %q", n, got)
		}
	}
}

func TestP1TextsThatAreNoCodes(t *testing.T) {
	texts := []string{
		"", " ", "o", "okay", "OK", "Ok", "ok ", " ok", "ok\n", "ok\x00", "ErrBad", "0", "1", "not empty", "\xff",
		strings.Repeat("ok", 3), strings.Repeat("a", impl.MaxText), strings.Repeat("ok", impl.MaxText),
		"ok" + strings.Repeat(" ", impl.MaxText),
	}
	for _, text := range texts {
		if got := impl.CodeOf(text); got != -1 {
			t.Errorf("CodeOf of %d bytes = %d", len(text), got)
		}
	}
}

func TestP1NamesByLength(t *testing.T) {
	long := strings.Repeat("a", impl.MaxName)
	right := []string{"a", "z", "A", "Z", "_", "a0", "_9", "a_Z9", "__", long, "_" + long[1:], long[1:] + "9"}
	for _, name := range right {
		if !impl.NameOK(name) {
			t.Errorf("NameOK(%q) is false", name)
		}
	}
	wrong := []string{
		"", "0", "9a", " ", " a", "a ", "a b", "a-b", "-a", "a.b", "a/b", "/", "a\n", "a\x00", "\x00", "é", "aé", "a\xff",
		"ａ", long + "a", long + "0", long + long, long[1:] + "-",
		strings.Repeat("a", impl.MaxText), strings.Repeat("a", impl.MaxText+1),
	}
	for _, name := range wrong {
		if impl.NameOK(name) {
			t.Errorf("NameOK of %d bytes (%.50q) is true", len(name), name)
		}
	}
}

func TestP1NamesByteByByte(t *testing.T) {
	letters := "abcdefghijklmnopqrstuvwxyzABCDEFGHIJKLMNOPQRSTUVWXYZ_"
	digits := "0123456789"
	for n := range 256 {
		b := byte(n)
		letter := strings.IndexByte(letters, b) >= 0
		digit := strings.IndexByte(digits, b) >= 0
		if got := impl.NameOK(string([]byte{b})); got != letter {
			t.Errorf("NameOK of the byte %d alone is %v", n, got)
		}
		if got := impl.NameOK(string([]byte{b, 'x'})); got != letter {
			t.Errorf("NameOK of the byte %d ahead is %v", n, got)
		}
		for _, name := range [][]byte{{'x', b}, {'x', b, 'x'}} {
			if got := impl.NameOK(string(name)); got != (letter || digit) {
				t.Errorf("NameOK of the byte %d behind a letter is %v", n, got)
			}
		}
	}
}
