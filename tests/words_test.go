package tests

import (
	"fmt"
	"math"
	"strings"
	"testing"

	"loop.example/g00410/impl"
)

func TestP4Places(t *testing.T) {
	if impl.Inodes != 16 || impl.Dirents != 24 || impl.Pages != 24 || impl.FilePage != 8 {
		t.Error("how many there are", impl.Inodes, impl.Dirents, impl.Pages, impl.FilePage)
	}
	if impl.JournalAt != 8 || impl.InodeAt != 48 || impl.DirentAt != 240 || impl.PageAt != 312 {
		t.Error("where they begin", impl.JournalAt, impl.InodeAt, impl.DirentAt, impl.PageAt)
	}
	if impl.TierNone != 0 || impl.TierPm != 1 || impl.TierBlk != 2 {
		t.Error("tiers", impl.TierNone, impl.TierPm, impl.TierBlk)
	}
	if impl.KindFree != 0 || impl.KindFile != 1 || impl.KindDir != 2 {
		t.Error("kinds", impl.KindFree, impl.KindFile, impl.KindDir)
	}
}

func TestP4NamesByTheirLetters(t *testing.T) {
	words := map[string]int{
		"a": 1, "b": 2, "z": 26,
		"aa": 28, "ab": 29, "az": 53, "ba": 55, "za": 703, "zz": 728,
		"aaa": 757, "abc": 786, "cba": 2242,
		"aaaaaa": 14900788, "abcdef": 15473895, "zzzzzz": firstSeven - 1,
	}
	for name, n := range words {
		wantName(t, name, n)
	}
}

// All numbers of up to four digits, then some of each length up to seven.
func TestP4NumbersBase27(t *testing.T) {
	wantNameOrNone := func(n int) {
		if name := nameOf(n); name != "" {
			wantName(t, name, n)
		} else {
			wantCode(t, fmt.Sprint(n), ask("UnpackName", impl.UnpackName, n), impl.ErrForm)
		}
	}
	for n := range 27 * 27 * 27 * 27 {
		wantNameOrNone(n)
	}
	d := &dice{state: 4}
	for most := 27; most <= 27*firstSeven; most *= 27 {
		for range 3000 {
			wantNameOrNone(d.roll(most))
		}
	}
}

// Each bit of noughts is a digit behind the first one that is 0.
func TestP4NoughtsInWords(t *testing.T) {
	for length := 2; length <= mostLetters; length++ {
		for noughts := 1; noughts < 1<<(length-1); noughts++ {
			for _, digit := range []int{1, 13, 26} {
				n := digit
				for at := range length - 1 {
					n *= 27
					if noughts&(1<<at) == 0 {
						n += digit
					}
				}
				wantCode(t, fmt.Sprint(n), ask("UnpackName", impl.UnpackName, n), impl.ErrForm)
			}
		}
	}
}

func TestP4NumbersWithoutAName(t *testing.T) {
	numbers := []int{
		0, -1, -26, -27, -28, -firstSeven, 27, 54, 729, 730,
		firstSeven, firstSeven + 1, firstSeven + 14900788, 27*firstSeven - 1, impl.MaxWord - 1, impl.MaxWord,
		1 << 32, 1<<32 + 1, 1 << 62, math.MinInt, math.MinInt + 1, math.MaxInt,
	}
	for _, n := range numbers {
		wantCode(t, fmt.Sprint(n), ask("UnpackName", impl.UnpackName, n), impl.ErrForm)
	}
}

func TestP4TextsThatAreNoShortNames(t *testing.T) {
	for _, text := range noShortNames() {
		wantCode(t, fmt.Sprintf("%.20q", text), ask("PackName", impl.PackName, text), impl.ErrName)
	}
}

func TestP4BytesOfNames(t *testing.T) {
	for n := range 256 {
		for length := 1; length <= mostLetters; length++ {
			for at := range length {
				name := []byte(strings.Repeat("m", length))
				name[at] = byte(n)
				want := impl.ErrName
				if strings.IndexByte("abcdefghijklmnopqrstuvwxyz", byte(n)) >= 0 {
					want = impl.OK
				}
				wantCode(t, fmt.Sprintf("%q", name), ask("PackName", impl.PackName, string(name)), want)
			}
		}
	}
}

func TestP4Entries(t *testing.T) {
	wantEntry(t, 0, impl.TierNone, 0)
	wantEntry(t, 1, impl.TierPm, 0)
	wantEntry(t, 93, impl.TierPm, 23)
	wantEntry(t, 2, impl.TierBlk, 0)
	wantEntry(t, 126, impl.TierBlk, 31)
	for _, x := range tiers() {
		for addr := range x.last + 1 {
			wantEntry(t, 4*addr+x.number, x.number, addr)
		}
	}
}

func TestP4AddressesThatATierHasNot(t *testing.T) {
	for _, x := range tiers() {
		for _, addr := range noIndexes(x.last) {
			wantCode(t, fmt.Sprint(x.name, " at ", addr), ask("PackEntry", impl.PackEntry, x.number, addr), impl.ErrRange)
		}
	}
	for _, none := range append(noIndexes(impl.TierBlk), 4, 5, 6, 8, 255) {
		for _, addr := range []int{0, 1, 23, 31, -1, 32, math.MinInt, math.MaxInt} {
			wantCode(t, fmt.Sprint("tier ", none, " at ", addr), ask("PackEntry", impl.PackEntry, none, addr), impl.ErrRange)
		}
	}
}

func TestP4NumbersThatAreNoEntries(t *testing.T) {
	entries := map[int]bool{}
	for _, x := range tiers() {
		for addr := range x.last + 1 {
			entries[4*addr+x.number] = true
		}
	}
	for n := -600; n <= 600; n++ {
		if !entries[n] {
			wantCode(t, fmt.Sprint(n), ask("TierOf", impl.TierOf, n), impl.ErrForm)
		}
	}
	for _, n := range append(noIndexes(126), impl.MaxWord-1, impl.MaxWord, 1<<32+1, 1<<32+2, math.MinInt+2, math.MaxInt-2, math.MaxInt-3) {
		wantCode(t, fmt.Sprint(n), ask("TierOf", impl.TierOf, n), impl.ErrForm)
	}
}

// rows are the inodes or the entries: where a field stands, and what there is.
type rows struct {
	name                      string
	word                      func(i, field int) (int, int)
	at, span, last, lastField int
}

func bothRows() []rows {
	return []rows{
		{"InodeWord", impl.InodeWord, 48, 12, 15, 10},
		{"DirentWord", impl.DirentWord, 240, 3, 23, 2},
	}
}

func TestP4FieldsOfInodesAndEntries(t *testing.T) {
	ends := []struct {
		word           func(i, field int) (int, int)
		i, field, want int
	}{
		{impl.InodeWord, 0, 0, 48}, {impl.InodeWord, 0, 10, 58}, {impl.InodeWord, 1, 0, 60}, {impl.InodeWord, 15, 0, 228}, {impl.InodeWord, 15, 10, 238},
		{impl.DirentWord, 0, 0, 240}, {impl.DirentWord, 0, 2, 242}, {impl.DirentWord, 1, 0, 243}, {impl.DirentWord, 23, 0, 309}, {impl.DirentWord, 23, 2, 311},
	}
	for k, e := range ends {
		if got, code := e.word(e.i, e.field); got != e.want || code != impl.OK {
			t.Errorf("end %d: field %d of %d is at %d, code %d, not at %d", k, e.field, e.i, got, code, e.want)
		}
	}
	for _, r := range bothRows() {
		for i := range r.last + 1 {
			for field := range r.lastField + 1 {
				if got, code := r.word(i, field); got != r.at+r.span*i+field || code != impl.OK {
					t.Errorf("%s(%d, %d) = %d, code %d", r.name, i, field, got, code)
				}
			}
		}
	}
}

func TestP4PlacesOfTheirOwn(t *testing.T) {
	taken := map[int]string{}
	for _, r := range bothRows() {
		for i := range r.last + 1 {
			for field := range r.lastField + 1 {
				at, _ := r.word(i, field)
				if at < impl.InodeAt || at >= impl.PageAt {
					t.Errorf("%s(%d, %d) is at %d", r.name, i, field, at)
				}
				if taken[at] != "" {
					t.Errorf("%s(%d, %d) is at %d, where %s is", r.name, i, field, at, taken[at])
				}
				taken[at] = fmt.Sprintf("%s(%d, %d)", r.name, i, field)
			}
		}
	}
}

func TestP4FieldsThatAreNone(t *testing.T) {
	for _, r := range bothRows() {
		wantRange := func(i, field int) {
			wantCode(t, fmt.Sprint(i, ", ", field), ask(r.name, r.word, i, field), impl.ErrRange)
		}
		for _, i := range noIndexes(r.last) {
			for field := range r.lastField + 1 {
				wantRange(i, field)
			}
			for _, field := range noIndexes(r.lastField) {
				wantRange(i, field)
			}
		}
		for i := range r.last + 1 {
			for _, field := range append(noIndexes(r.lastField), r.span) {
				wantRange(i, field)
			}
		}
	}
}
