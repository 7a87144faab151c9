package tests

import (
	"math"
	"reflect"
	"testing"

	"loop.example/g00410/impl"
)

const sentinel = 424242

// asked is a call of the program with its arguments, so that promise 1 can be asked of any call.
type asked struct {
	name      string
	function  any
	arguments []any
}

func ask(name string, function any, arguments ...any) asked {
	return asked{name, function, arguments}
}

// roomyArguments are copies with elements behind the ends of their lists, so that a call that appends in place is seen.
func (a asked) roomyArguments() []reflect.Value {
	var list []reflect.Value
	for _, x := range a.arguments {
		list = append(list, roomyCopy(reflect.ValueOf(x)))
	}
	return list
}

func (a asked) answersOf(arguments []reflect.Value) []reflect.Value {
	return reflect.ValueOf(a.function).Call(arguments)
}

func (a asked) answers() []reflect.Value {
	return a.answersOf(a.roomyArguments())
}

// plainAnswers are of the arguments as they stand: nil where they have nil, and no room behind their lists.
func (a asked) plainAnswers() []reflect.Value {
	var list []reflect.Value
	for _, x := range a.arguments {
		list = append(list, reflect.ValueOf(x))
	}
	return a.answersOf(list)
}

func roomyCopy(v reflect.Value) reflect.Value {
	c := reflect.New(v.Type()).Elem()
	switch v.Kind() {
	case reflect.Slice:
		c.Set(reflect.MakeSlice(v.Type(), v.Len()+3, v.Len()+3))
		scribble(c)
		for i := range v.Len() {
			c.Index(i).Set(roomyCopy(v.Index(i)))
		}
		c.Set(c.Slice(0, v.Len()))
	case reflect.Struct:
		for i := range v.NumField() {
			c.Field(i).Set(roomyCopy(v.Field(i)))
		}
	default:
		c.Set(v)
	}
	return c
}

// scribble writes into all that can be written into, lists up to the end of their room.
func scribble(v reflect.Value) {
	switch v.Kind() {
	case reflect.Slice:
		for i := range v.Cap() {
			scribble(v.Slice(0, v.Cap()).Index(i))
		}
	case reflect.Array:
		for i := range v.Len() {
			scribble(v.Index(i))
		}
	case reflect.Struct:
		for i := range v.NumField() {
			scribble(v.Field(i))
		}
	case reflect.Int:
		setIfPossible(v, reflect.ValueOf(sentinel))
	case reflect.String:
		setIfPossible(v, reflect.ValueOf("scribbled"))
	case reflect.Bool:
		setIfPossible(v, reflect.ValueOf(true))
	}
}

// setIfPossible leaves alone what is no variable: the numbers of an answer, unlike the elements of its lists.
func setIfPossible(v, to reflect.Value) {
	if v.CanSet() {
		v.Set(to)
	}
}

// alike takes nil and empty lists as the same, as the document does; with room it looks behind the ends of lists too.
func alike(a, b reflect.Value, room bool) bool {
	switch a.Kind() {
	case reflect.Slice:
		if room {
			a, b = a.Slice(0, a.Cap()), b.Slice(0, b.Cap())
		}
		if a.Len() != b.Len() {
			return false
		}
		for i := range a.Len() {
			if !alike(a.Index(i), b.Index(i), room) {
				return false
			}
		}
		return true
	case reflect.Struct:
		for i := range a.NumField() {
			if !alike(a.Field(i), b.Field(i), room) {
				return false
			}
		}
		return true
	}
	return a.Equal(b)
}

func allAlike(a, b []reflect.Value, room bool) bool {
	for i := range a {
		if !alike(a[i], b[i], room) {
			return false
		}
	}
	return len(a) == len(b)
}

func isZeroValue(v reflect.Value) bool {
	return alike(v, reflect.Zero(v.Type()), false)
}

// stretch is the room of one list, from its first byte to behind its last one.
type stretch struct{ from, to uintptr }

func stretchesOf(v reflect.Value) []stretch {
	var list []stretch
	switch v.Kind() {
	case reflect.Slice:
		if v.Cap() > 0 {
			list = append(list, stretch{v.Pointer(), v.Pointer() + uintptr(v.Cap())*v.Type().Elem().Size()})
		}
		for i := range v.Len() {
			list = append(list, stretchesOf(v.Index(i))...)
		}
	case reflect.Struct:
		for i := range v.NumField() {
			list = append(list, stretchesOf(v.Field(i))...)
		}
	}
	return list
}

func listsShare(answers []reflect.Value) bool {
	var all []stretch
	for _, v := range answers {
		all = append(all, stretchesOf(v)...)
	}
	for i, a := range all {
		for _, b := range all[:i] {
			if a.from < b.to && b.from < a.to {
				return true
			}
		}
	}
	return false
}

// wantCode asks for a code, and that all else is zero if it is not OK.
func wantCode(t *testing.T, where string, a asked, code int) {
	t.Helper()
	answers := a.answers()
	last := len(answers) - 1
	if got := answers[last].Interface(); got != code {
		t.Errorf("%s: %s has the code %v, not %d", where, a.name, got, code)
	}
	if code == impl.OK {
		return
	}
	for _, v := range answers[:last] {
		if !isZeroValue(v) {
			t.Errorf("%s: %s has more than the code %d", where, a.name, code)
		}
	}
}

// wantAsItWas asks for a code and, as the first answer, what was given as the first argument.
func wantAsItWas(t *testing.T, where string, a asked, code int) {
	t.Helper()
	answers := a.answers()
	if got := answers[len(answers)-1].Interface(); got != code {
		t.Errorf("%s: %s has the code %v, not %d", where, a.name, got, code)
	}
	if !alike(answers[0], reflect.ValueOf(a.arguments[0]), false) {
		t.Errorf("%s: %s does not answer what it was given", where, a.name)
	}
}

func wantUntouched(t *testing.T, where string, a asked) {
	t.Helper()
	arguments, want := a.roomyArguments(), a.roomyArguments()
	answers := a.answersOf(arguments)
	if !allAlike(arguments, want, true) {
		t.Errorf("%s: %s changes an argument, or writes behind its end", where, a.name)
	}
	if listsShare(answers) {
		t.Errorf("%s: two lists of the answer of %s share memory", where, a.name)
	}
	for _, v := range answers {
		scribble(v)
	}
	if !allAlike(arguments, want, true) {
		t.Errorf("%s: writing into the answer of %s changes an argument", where, a.name)
	}
}

// wantPromise1 asks each call twice, all the others being asked in between.
func wantPromise1(t *testing.T, where string, calls []asked) {
	t.Helper()
	var first [][]reflect.Value
	for _, c := range calls {
		first = append(first, c.answers())
		wantUntouched(t, where, c)
	}
	for i, c := range calls {
		if !allAlike(c.answers(), first[i], false) || !allAlike(c.plainAnswers(), first[i], false) {
			t.Errorf("%s: %s answers otherwise the second time", where, c.name)
		}
	}
}

// wrongKeeps have a number that is none from 0 to 400 somewhere.
func wrongKeeps() [][]int {
	longest := make([]int, impl.MaxList)
	longest[impl.MaxList-1] = 401
	return [][]int{{-1}, {401}, {0, -1}, {400, 401}, {1, 2, 3, 4, 5, 6, 7, 8, -1}, {math.MinInt}, {math.MaxInt}, longest}
}

func longKeeps() [][]int {
	longAndWrong := make([]int, impl.MaxList+1)
	longAndWrong[0] = -1
	return [][]int{make([]int, impl.MaxList+1), longAndWrong, make([]int, 3*impl.MaxList)}
}

// dice rolls the same numbers in every run: a test that failed fails again.
type dice struct{ state uint64 }

func (d *dice) roll(n int) int {
	d.state = d.state*6364136223846793005 + 1442695040888963407
	return int(d.state>>33) % n
}
