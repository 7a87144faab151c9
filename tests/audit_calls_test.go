package tests

import (
	"fmt"
	"slices"
	"testing"

	"loop.example/g00410/impl"
)

func TestP1RightAudits(t *testing.T) {
	for _, h := range auditHosts() {
		for _, list := range stepsThatStay() {
			for _, c := range auditCalls(h.devices, list...) {
				wantCode(t, h.name, c, impl.OK)
			}
		}
	}
}

// That there is no right image is told of each call, and ahead of steps that are none.
func TestP1AuditsOfWrongHosts(t *testing.T) {
	for _, h := range wrongHosts() {
		for _, list := range append(stepsThatStay(), placesOf(impl.Micro{})...) {
			for _, c := range auditCalls(h.devices, list...) {
				wantCode(t, h.name, c, impl.ErrBad)
			}
		}
		// Wrong in two things.
		two := unsure(h.devices, []impl.Store{{At: 3, Value: 3}}, []impl.Sector{{At: 3, Value: 3}})
		for _, c := range auditCalls(two, storeStep(317, 5)) {
			wantCode(t, h.name+", a store and a write", c, impl.ErrBad)
		}
	}
	full := housed(fullImage())
	full.Blk.Sectors = full.Blk.Sectors[1:]
	for _, c := range auditCalls(full, storeStep(317, 5)) {
		wantCode(t, "full, and a sector too few", c, impl.ErrBad)
	}
	for _, c := range auditCalls(housed(wronged(fullImage())), storeStep(317, 5)) {
		wantCode(t, "full, and a link too many", c, impl.ErrBad)
	}
}

// An address that two pages have, and entries that are none, are faults of the image.
func TestP1AuditsOfAddressesTwice(t *testing.T) {
	names := map[string]bool{}
	for _, x := range wholeChanges()[14:] {
		names[x.name] = true
		for _, c := range auditCalls(housed(x.of(smallImage())), storeStep(317, 5)) {
			wantCode(t, x.name, c, impl.ErrBad)
		}
	}
	if !names["a page twice in a file"] || !names["a sector twice in a file"] || !names["a page in two files"] || !names["a sector in two files"] {
		t.Errorf("these were asked for: %v", names)
	}
	for _, entry := range everyAddress() {
		twice := unsure(housed(packed(0, 0)), []impl.Store{{At: 64, Value: entry}}, nil)
		for _, c := range auditCalls(twice, storeStep(317, 5)) {
			wantCode(t, fmt.Sprint("entry ", entry, " twice"), c, impl.ErrBad)
		}
	}
	for _, entry := range []int{3, 4, 7, 8, 97, 101, 127, 130, impl.MaxWord - 1} {
		for _, c := range auditCalls(housedWith(64, entry), storeStep(317, 5)) {
			wantCode(t, fmt.Sprint("the entry ", entry, ", which is none"), c, impl.ErrBad)
		}
	}
}

// Stores and writes that are not sure are no fault; what is loaded may be one.
func TestP1AuditsOfWhatIsNotSure(t *testing.T) {
	for _, h := range roomyHosts() {
		for _, x := range unsureParts(h.devices) {
			code := impl.OK
			if _, ok := readByHand(wordsByHand(x.devices.Pm)); !ok {
				code = impl.ErrBad
			}
			for _, c := range auditCalls(x.devices, storeStep(317, 5), writeStep(5, 5)) {
				wantCode(t, h.name+", "+x.name, c, code)
			}
		}
	}
	// What steps may yet bring about, or a journal, is asked for nothing.
	for _, x := range append(wrongJournals(), wrongBehind()...) {
		code := impl.OK
		if _, ok := readByHand(x.devices.Pm.Words); !ok {
			code = impl.ErrBad
		}
		for _, c := range auditCalls(x.devices, storeStep(317, 5)) {
			wantCode(t, x.name, c, code)
		}
	}
}

// A step that is none, first, last or between, is told whatever the others are, and whatever is free.
func TestP1LooseOfNoSteps(t *testing.T) {
	for _, h := range []namedPair{{"small", housed(smallImage())}, {"new", impl.NewDevices()}, {"full", housed(fullImage())}} {
		for _, wrong := range wrongSteps() {
			for k, list := range placesOf(wrong) {
				wantCode(t, fmt.Sprint(h.name, ", the step ", wrong, ", ", k), looseCall(h.devices, list...), impl.ErrForm)
			}
		}
		for _, step := range rightSteps() {
			wantCode(t, fmt.Sprint(h.name, ", the step ", step), looseCall(h.devices, step), impl.OK)
		}
		// Beside the first and the last address of each tier.
		for _, c := range []struct {
			step impl.Micro
			code int
		}{
			{storeStep(311, 5), impl.OK}, {storeStep(312, 5), impl.OK}, {storeStep(335, 5), impl.OK}, {storeStep(336, 5), impl.ErrForm}, {storeStep(-1, 5), impl.ErrForm},
			{writeStep(-1, 5), impl.ErrForm}, {writeStep(0, 5), impl.OK}, {writeStep(31, 5), impl.OK}, {writeStep(32, 5), impl.ErrForm}, {writeStep(100, 5), impl.ErrForm},
			{storeStep(312, -1), impl.ErrForm}, {storeStep(312, impl.MaxWord), impl.ErrForm}, {writeStep(0, -1), impl.ErrForm}, {writeStep(0, impl.MaxWord), impl.ErrForm},
			{impl.Micro{Kind: impl.MiFlush, At: 312, Value: 5}, impl.ErrForm}, {flushStep(336), impl.ErrForm}, {impl.Micro{Kind: impl.MiBarrier, At: 5}, impl.ErrForm},
		} {
			wantCode(t, fmt.Sprint(h.name, ", the step ", c.step), looseCall(h.devices, c.step), c.code)
		}
	}
}

// Each two faults at once, and all three: too many steps, no right image, a step that is none.
func TestP1CodesOfLoose(t *testing.T) {
	hosts := []namedPair{{"small", housed(smallImage())}, {"full", housed(fullImage())}, {"nothing", impl.Devices{}}, {"noughts", zeroPair()}, {"a link too many", housed(wronged(smallImage()))}}
	for _, h := range hosts {
		for _, list := range longSteps() {
			wantCode(t, h.name, looseCall(h.devices, list...), impl.ErrLong)
		}
		code, form := impl.OK, impl.ErrForm
		if h.name != "small" && h.name != "full" {
			code, form = impl.ErrBad, impl.ErrBad
		}
		wantCode(t, h.name+", as many as there may be", looseCall(h.devices, fences(impl.MaxList)...), code)
		for _, at := range []int{0, 1, impl.MaxList / 2, impl.MaxList - 1} {
			list := fences(impl.MaxList)
			list[at] = impl.Micro{Kind: 6}
			wantCode(t, fmt.Sprint(h.name, ", none at ", at), looseCall(h.devices, list...), form)
		}
		for _, wrong := range wrongSteps() {
			wantCode(t, fmt.Sprint(h.name, ", the step ", wrong), looseCall(h.devices, wrong), form)
		}
	}
}

// What is zero is answered with the code OK all the same.
func TestP1AuditsThatAreZero(t *testing.T) {
	wantTiers(t, "new", impl.NewDevices(), 0, 0, 0)
	wantLoose(t, "new", impl.NewDevices(), nil)
	wantLoose(t, "full", housed(fullImage()), rightSteps())
	wantFair(t, "full", housed(fullImage()), false)
	wantSure(t, "busy", changedFs("", impl.NewFs(), func(f *impl.Fs) { f.Todo = fences(1) }).fs, false)
}

func TestP1WrongSystemsAreNotSure(t *testing.T) {
	list := wrongSystems()
	for _, x := range list {
		wantCode(t, x.name, sureCall(x.fs), impl.ErrBad)
	}
	// Wrong in two things.
	for k, x := range list {
		other := list[(k+7)%len(list)].fs
		wantCode(t, x.name+", and another's heat", sureCall(changedFs("", x.fs, func(f *impl.Fs) { f.Heat = slices.Concat(other.Heat, []int{65}) }).fs), impl.ErrBad)
		wantCode(t, x.name+", and a step that is none", sureCall(changedFs("", x.fs, func(f *impl.Fs) { f.Todo = append(f.Todo, impl.Micro{}) }).fs), impl.ErrBad)
	}
	for _, x := range rightSystems() {
		wantCode(t, x.name, sureCall(x.fs), impl.OK)
	}
	for _, x := range formless() {
		// With something to be done a right image is not asked for.
		wantSure(t, x.name, x.fs, false)
		wantCode(t, x.name+", nothing to be done", sureCall(changedFs("", x.fs, func(f *impl.Fs) { f.Todo = nil }).fs), impl.ErrBad)
	}
}

func TestP1AuditsUntouched(t *testing.T) {
	var calls []asked
	for _, h := range auditHosts() {
		for _, list := range stepsThatStay()[:5] {
			calls = append(calls, auditCalls(h.devices, list...)...)
		}
	}
	small := housed(smallImage())
	for _, x := range unsureParts(small) {
		calls = append(calls, auditCalls(x.devices, storeStep(317, 5))...)
	}
	d := &dice{state: 144}
	for range 40 {
		calls = append(calls, auditCalls(housed(rollImage(d)), rollSteps(d)...)...)
	}
	wantPromise1(t, "right devices", calls)
}

func TestP1AuditsOfWrongArgumentsUntouched(t *testing.T) {
	var calls []asked
	for _, h := range wrongHosts() {
		calls = append(calls, auditCalls(h.devices, storeStep(317, 5), impl.Micro{})...)
	}
	small := housed(smallImage())
	for _, wrong := range wrongSteps() {
		for _, list := range placesOf(wrong)[:4] {
			calls = append(calls, looseCall(small, list...))
		}
	}
	for _, list := range longSteps() {
		calls = append(calls, looseCall(small, list...), looseCall(impl.Devices{}, list...))
	}
	wantPromise1(t, "wrong devices and steps", calls)
}

func TestP1SureUntouched(t *testing.T) {
	var calls []asked
	for _, x := range append(rightSystems(), wrongSystems()...) {
		calls = append(calls, sureCall(x.fs))
	}
	wantPromise1(t, "systems", calls)
}
