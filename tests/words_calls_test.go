package tests

import (
	"fmt"
	"math"
	"strings"
	"testing"

	"loop.example/g00410/impl"
)

// The names, numbers and places are right, at their ends, wrong, and as far off as can be.
func TestP1Words(t *testing.T) {
	calls := wordCalls("a", 1, impl.TierPm, 0, 0, 0)
	calls = append(calls, wordCalls("zzzzzz", firstSeven-1, impl.TierBlk, 31, 23, 2)...)
	calls = append(calls, wordCalls("midst", 93, impl.TierNone, 0, 15, 10)...)
	calls = append(calls, wordCalls("", 0, impl.TierNone, 1, 24, 0)...)
	calls = append(calls, wordCalls("sevenaa", firstSeven, 3, 0, 0, 11)...)
	calls = append(calls, wordCalls("é", -1, -1, -1, -1, -1)...)
	calls = append(calls, wordCalls("a\xff", math.MinInt, math.MinInt, math.MinInt, math.MinInt, math.MinInt)...)
	calls = append(calls, wordCalls(strings.Repeat("a", impl.MaxText+1), math.MaxInt, math.MaxInt, math.MaxInt, math.MaxInt, math.MaxInt)...)
	wantPromise1(t, "words", calls)
}

func TestP1LongNames(t *testing.T) {
	for _, text := range []string{"a", " ", "A", "é"} {
		for _, times := range []int{impl.MaxText + 1, 3 * impl.MaxText} {
			wantCode(t, fmt.Sprintf("%d times %q", times, text), ask("PackName", impl.PackName, strings.Repeat(text, times)), impl.ErrLong)
		}
	}
}

func TestP1NamesOfAsManyBytesAsATextHas(t *testing.T) {
	for _, text := range []string{"a", " ", "A"} {
		wantCode(t, text, ask("PackName", impl.PackName, strings.Repeat(text, impl.MaxText)), impl.ErrName)
	}
}
