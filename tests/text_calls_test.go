package tests

import (
	"fmt"
	"slices"
	"strings"
	"testing"

	"loop.example/g00410/impl"
)

// Texts within an operation are never too long: then it is none.
func TestP1TextsOfNoOps(t *testing.T) {
	for _, o := range noOps() {
		where := fmt.Sprintf("%.60q", fmt.Sprint(o))
		wantCode(t, where, opTextCall(o), impl.ErrBad)
		for _, a := range append(someAnswers(), impl.Answer{Code: 20}, impl.Answer{Value: -1}, impl.Answer{Names: make([]string, impl.MaxList+1)}) {
			wantCode(t, where, answerTextCall(o, a), impl.ErrBad)
		}
	}
}

// Each two faults of an operation at once, and all of them.
func TestP1CodesOfOpTexts(t *testing.T) {
	long := longTexts()[0]
	for _, kind := range append(noIndexes(impl.OpList), 0, 1, 2, 3, 4, 5, 6, 7, 8, 9, 10) {
		for _, path := range []string{"/a", "", "a", long} {
			for _, to := range []string{"", "/b", "b", long} {
				for _, page := range []int{0, 1, 1000, 1001, -1} {
					for _, value := range []int{0, 1, impl.MaxWord - 1, impl.MaxWord, -1} {
						o := impl.Op{Kind: kind, Path: path, To: to, Page: page, Value: value}
						wantOpText(t, o)
						wantAnswerText(t, o, impl.Answer{Value: 5})
					}
				}
			}
		}
	}
}

// Of an answer each two faults at once, beside an operation that is right or not: a code that is none, a Value that is no word, too many names, no name.
func TestP1CodesOfAnswerTexts(t *testing.T) {
	for _, o := range []impl.Op{statOp("/a"), listOp("/"), makeOp("/a"), readOp("/a", 1000), readOp("/a", 1001), makeOp("a"), linkOp("/a", ""), {}} {
		for _, code := range []int{0, 5, 19, 20, -1} {
			for _, value := range []int{0, 5, impl.MaxWord - 1, impl.MaxWord, -1} {
				for _, names := range [][]string{nil, {"a", "b"}, {"a", ""}, shortNames(24), shortNames(25), make([]string, 25), make([]string, impl.MaxList+1), {longTexts()[0]}} {
					wantAnswerText(t, o, impl.Answer{Code: code, Value: value, Names: names})
				}
			}
		}
	}
}

// A text that is too long is told ahead of its being no operation's.
func TestP1LongOpTexts(t *testing.T) {
	for _, text := range longTexts() {
		wantCode(t, "a long text", readOpCall(text), impl.ErrLong)
	}
	for _, text := range []string{"", "make /a", "make a", "write /a 0 -1", "go", "\t"} {
		for _, filler := range []string{" ", "a", "\x00", "0"} {
			wantCode(t, text, readOpCall(text+strings.Repeat(filler, impl.MaxText+1-len(text))), impl.ErrLong)
			wantCode(t, text, readOpCall(text+strings.Repeat(filler, 3*impl.MaxText)), impl.ErrLong)
			if filler != " " || text != "make /a" {
				wantCode(t, text, readOpCall(text+strings.Repeat(filler, impl.MaxText-len(text))), impl.ErrForm)
			}
		}
	}
}

// Too many steps are told ahead of one that is none.
func TestP1LongPlans(t *testing.T) {
	for _, m := range []impl.Micro{fenceStep(), {}, storeStep(-1, -1), storeStep(3, 5)} {
		for _, n := range []int{impl.MaxList + 1, 3 * impl.MaxList} {
			list := slices.Repeat([]impl.Micro{fenceStep()}, n)
			for _, at := range []int{0, n / 2, n - 1} {
				list[at] = m
				wantCode(t, fmt.Sprint(n, " steps"), planTextCall(list...), impl.ErrLong)
			}
		}
		full := slices.Repeat([]impl.Micro{fenceStep()}, impl.MaxList)
		full[impl.MaxList-1] = m
		wantPlanText(t, "as many steps as there may be", full...)
	}
}

func TestP1TextsUntouched(t *testing.T) {
	var calls []asked
	for k, o := range append(append(someOps(), opsOfEachKind()...), noOps()...) {
		calls = append(calls, opTextCall(o))
		for _, a := range append(someAnswers(), impl.Answer{Names: shortNames(k % 27)}) {
			calls = append(calls, answerTextCall(o, a))
		}
		if text, code := impl.OpText(o); code == impl.OK {
			calls = append(calls, readOpCall(text), readOpCall("  "+text+"  "), readOpCall(text+" x"))
		}
	}
	for _, text := range append(noPaths(), longTexts()...) {
		calls = append(calls, readOpCall(text), readOpCall("make "+text))
	}
	for _, m := range append(rightSteps(), wrongSteps()...) {
		calls = append(calls, microTextCall(m), planTextCall(m), planTextCall(fenceStep(), m))
	}
	calls = append(calls, planTextCall(), planTextCall(rightSteps()...), planTextCall(make([]impl.Micro, impl.MaxList+1)...), planTextCall(slices.Repeat([]impl.Micro{fenceStep()}, impl.MaxList)...))
	wantPromise1(t, "texts", calls)
}
