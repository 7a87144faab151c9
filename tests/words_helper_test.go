package tests

import (
	"math"
	"strconv"
	"strings"
	"testing"

	"loop.example/g00410/impl"
)

const (
	mostLetters = 6
	// firstSeven is 27 to the power of 6: the first number of seven digits.
	firstSeven = 387420489
)

// nameOf tells a short name by the library's digits: the empty text if the number has none.
func nameOf(n int) string {
	digits := strconv.FormatInt(int64(n), 27)
	if n < 1 || len(digits) > mostLetters || strings.Contains(digits, "0") {
		return ""
	}
	return strings.Map(letterOf, digits)
}

func letterOf(digit rune) rune {
	return 'a' - 1 + rune(strings.IndexRune("0123456789abcdefghijklmnopq", digit))
}

// tier is a tier with its last address.
type tier struct {
	name         string
	number, last int
}

func tiers() []tier {
	return []tier{{"nowhere", impl.TierNone, 0}, {"the memory", impl.TierPm, 23}, {"the block device", impl.TierBlk, 31}}
}

// noIndexes are below or above all that is counted from 0 to last.
func noIndexes(last int) []int {
	return []int{-1, -2, -last - 1, last + 1, last + 2, last + 1<<32, -1 << 32, 1 << 62, math.MinInt, math.MinInt + 1, math.MaxInt - 1, math.MaxInt}
}

// noShortNames are texts as they may be handed in.
func noShortNames() []string {
	return []string{
		"", "aaaaaaa", "sevenaa", "zzzzzzz", "A", "Z", "aA", "Aa", "abcdeF", "0", "a1", "1a", "a1b", " ", "a ", " a", "a b",
		"_", "a_", "/", "/a", "a/b", "a-b", ".", "..", "a\n", "a\x00", "\x00", "`", "{", "a`", "a{",
		"é", "aé", "ａ", "abcdé", "\xff", "a\xff", "ß", "日", "e\u0301",
		strings.Repeat("a", impl.MaxName), strings.Repeat("a", impl.MaxText), strings.Repeat(" ", impl.MaxText),
	}
}

func wantName(t *testing.T, name string, n int) {
	t.Helper()
	if got, code := impl.PackName(name); got != n || code != impl.OK {
		t.Errorf("PackName(%q) = %d, code %d, not %d", name, got, code, n)
	}
	if got, code := impl.UnpackName(n); got != name || code != impl.OK {
		t.Errorf("UnpackName(%d) = %q, code %d, not %q", n, got, code, name)
	}
}

func wantEntry(t *testing.T, entry, tier, addr int) {
	t.Helper()
	if got, code := impl.PackEntry(tier, addr); got != entry || code != impl.OK {
		t.Errorf("PackEntry(%d, %d) = %d, code %d, not %d", tier, addr, got, code, entry)
	}
	if gotTier, gotAddr, code := impl.TierOf(entry); gotTier != tier || gotAddr != addr || code != impl.OK {
		t.Errorf("TierOf(%d) = %d, %d, code %d, not %d, %d", entry, gotTier, gotAddr, code, tier, addr)
	}
}

func wordCalls(name string, n, tier, addr, i, field int) []asked {
	return []asked{
		ask("PackName", impl.PackName, name),
		ask("UnpackName", impl.UnpackName, n),
		ask("PackEntry", impl.PackEntry, tier, addr),
		ask("TierOf", impl.TierOf, n),
		ask("InodeWord", impl.InodeWord, i, field),
		ask("DirentWord", impl.DirentWord, i, field),
	}
}
