package sched

import (
	"fmt"
	"slices"
	"testing"

	"quern/api"
)

// counter tells a program that takes 2 n + 3 steps, n from 1 on, and then goes on with those of the tail, whose first place is 5.
func counter(n int, tail string) string {
	return fmt.Sprintf("Set 1 1; Set 2 %d; Set 0 0; Sum 0 1; Less 0 2 3; %s", n, tail)
}

// even is such an n that one step behind the counter's last makes MaxSteps.
const even = (api.MaxSteps - 4) / 2

func TestEndSteps(t *testing.T) { // SC2: EndDone goes ahead of EndSteps, EndSteps of EndStuck; a step beyond MaxSteps is never taken
	for _, x := range []struct {
		what  string
		s     api.System
		end   int
		fault api.Errno
		steps int
	}{
		{"done with one step less", shared(counter(even-1, "Work 1; Work 2")), api.EndDone, 0, api.MaxSteps - 1},
		{"done with as many", shared(counter(even, "Work 1")), api.EndDone, 0, api.MaxSteps},
		{"done with as many, by OpEnd", shared(counter(even, "End; Work 1")), api.EndDone, 0, api.MaxSteps},
		{"done with as many, by a way", shared(counter(even, "Jump 0 0 7; Work 1")), api.EndDone, 0, api.MaxSteps},
		{"one step more", shared(counter(even, "Work 1; Work 2")), api.EndSteps, 0, api.MaxSteps},
		{"one step more, OpEnd", shared(counter(even, "Work 1; End")), api.EndSteps, 0, api.MaxSteps},
		{"stuck with one step less", shared(counter(even, "Take 0")), api.EndStuck, 0, api.MaxSteps - 1},
		{"as many, then none is ready", shared(counter(even, "Work 1; Take 0")), api.EndSteps, 0, api.MaxSteps},
		{"a fault with as many", shared(counter(even, "Free 0; Work 1")), api.EndFault, api.ErrFree, api.MaxSteps},
		{"a fault with one step less", shared(counter(even-1, "Work 1; Free 0; Work 1")), api.EndFault, api.ErrFree, api.MaxSteps - 1},
		{"a fault beyond", shared(counter(even, "Work 1; Free 0")), api.EndSteps, 0, api.MaxSteps},
		{"one of two has not ended", shared("Start 1; "+counter(even, "Jump 0 0 4"), "Take 0"), api.EndSteps, 0, api.MaxSteps},
		{"without an end", shared("Jump"), api.EndSteps, 0, api.MaxSteps},
		{"two without an end", shared("Start 0; Jump 0 0 1"), api.EndSteps, 0, api.MaxSteps},
	} {
		for _, picks := range [][]int{nil, zeros(3), zeros(api.MaxSteps), zeros(api.MaxSteps + 1), zeros(2 * api.MaxSteps)} {
			r := played(t, x.what, x.s, picks...)
			wantEnd(t, x.what, r, x.end, x.fault, x.steps)
			if r.Runners != 1+starts(r) || !slices.Equal(r.Cells, zeros(3)) {
				t.Errorf("%s: %d runners, cells %v", x.what, r.Runners, r.Cells)
			}
		}
	}
}

// starts tells how many runners were started.
func starts(r api.Run) int {
	n := 0
	for _, e := range r.Events {
		if e.Op == api.OpStart {
			n++
		}
	}
	return n
}

func TestReadyAtMostSteps(t *testing.T) { // SC4: with as many picks as a run may have steps
	for _, x := range []struct {
		what  string
		s     api.System
		steps int
		right []int
	}{
		{"ahead of the last step", shared(counter(even, "Work 1")), api.MaxSteps - 1, []int{0}},
		{"done with as many", shared(counter(even, "Work 1")), api.MaxSteps, nil},
		{"done, a pick beyond", shared(counter(even, "Work 1")), api.MaxSteps + 1, nil},
		{"none is ready behind as many", shared(counter(even, "Work 1; Take 0")), api.MaxSteps, nil},
		{"a fault as the last one", shared(counter(even, "Free 0")), api.MaxSteps, nil},
		{"ahead of that fault", shared(counter(even, "Free 0")), api.MaxSteps - 1, []int{0}},
		{"the last pick is used up just where the run ends", shared("Jump"), api.MaxSteps, []int{0}},
		{"the run has ended ahead of the last pick", shared("Jump"), api.MaxSteps + 1, nil},
		{"long ahead of it", shared("Jump"), 3 * api.MaxSteps, nil},
	} {
		wantReady(t, x.what, x.s, zeros(x.steps), x.right...)
	}
}

func TestFaultEndsTheRun(t *testing.T) { // SC2, SC3: nothing of a step that is an error is done, and others take none behind it
	for text, why := range map[string]api.Errno{"Close 0; Close 0": api.ErrClosed, "Close 0; Send 0": api.ErrSent, "Work; Free 0": api.ErrFree, "Work; Add 0 -1": api.ErrGroup} {
		// The second runner goes on: it would write, if it were let.
		s := shared("Start 1; Set 0 1; Write 0 0; "+text+"; Write 7 0", "Work 9; Set 0 5; Write 0 0")
		r := played(t, text, s, 0, 0, 1)
		wantEnd(t, text, r, api.EndFault, why, 6)
		if !slices.Equal(r.Cells, []int{0, 1, 0}) || r.Runners != 2 {
			t.Errorf("%s: cells %v, %d runners", text, r.Cells, r.Runners)
		}
		r = played(t, text, s, 0, 1, 1, 1)
		wantEnd(t, text+", the other first", r, api.EndFault, why, 8)
		if !slices.Equal(r.Cells, []int{0, 1, 5}) {
			t.Errorf("%s: cells %v", text, r.Cells)
		}
	}
	// A crowd: no runner comes to it.
	r := played(t, "a crowd", starter(600, "Work"))
	if r.Runners != api.MaxRunner {
		t.Errorf("a crowd: %d runners", r.Runners)
	}
}

func TestFaultIsToldOfItsEndAlone(t *testing.T) { // SC3: Fault is OK but of EndFault, whatever would have come
	for _, w := range []told{
		{"done", shared("Jump 0 0 2; Free 0"), nil, api.EndDone, 0, "0 Jump 0 0", 1, nil},
		{"stuck", shared("Take 0; Free 0"), nil, api.EndStuck, 0, "", 1, nil},
		{"stuck ahead of a fault of another", shared("Start 1; Take 0", "Take 1; Free 0"), nil, api.EndStuck, 0, "0 Start 1 1", 2, nil},
	} {
		w.want(t)
	}
}

func TestStuck(t *testing.T) { // SC2: nobody is ready, and not all have ended
	for _, w := range []told{
		{"each waits for the other's lock", shared("Lock 0; Start 1; Lock 1", "Lock 1; Lock 0"), []int{0, 0, 1}, api.EndStuck, 0, "0 Lock 0 0; 0 Start 1 1; 1 Lock 1 0", 2, nil},
		{"or not", shared("Lock 0; Start 1; Lock 1; Free 1; Free 0", "Lock 1; Lock 0"), nil, api.EndDone, 0,
			"0 Lock 0 0; 0 Start 1 1; 0 Lock 1 0; 0 Free 1 0; 0 Free 0 0; 1 Lock 1 0; 1 Lock 0 0", 2, nil},
		{"the first has ended", shared("Start 1; End", "Take 0"), nil, api.EndStuck, 0, "0 Start 1 1; 0 End 0 0", 2, nil},
		{"of many one", shared("Start 1; Start 1; Start 1; Send 1; Send 1", "Take 1 0"), nil, api.EndStuck, 0,
			"0 Start 1 1; 0 Start 1 2; 0 Start 1 3; 0 Send 1 0; 0 Send 1 0; 1 Take 1 0; 2 Take 1 0", 4, nil},
		{"all four ways", shared("Start 1; Start 2; Start 3; Lock 0; Add 0 1; Send 0; Start 4; Wait 0", "Take 1", "Work; Work; Send 0", "Work; Lock 0", "Work"), nil, api.EndStuck, 0,
			"0 Start 1 1; 0 Start 2 2; 0 Start 3 3; 0 Lock 0 0; 0 Add 0 1; 0 Send 0 0; 0 Start 4 4; 2 Work 0 0; 2 Work 0 0; 3 Work 0 0; 4 Work 0 0", 5, nil},
	} {
		w.want(t)
	}
}

func TestCellsAtTheEnd(t *testing.T) { // SC3: whatever the end; as many as the system has
	write := "Set 0 2; Set 1 33; Write 0 1; Set 0 0; Write 0 1; Set 1 -4; Write 0 1; "
	right := []int{-4, 0, 33}
	for text, end := range map[string]int{"End": api.EndDone, "Take 0": api.EndStuck, "Free 0": api.EndFault, "Jump 0 0 7": api.EndSteps} {
		r := played(t, text, shared(write+text))
		if r.End != end || !slices.Equal(r.Cells, right) {
			t.Errorf("%s: end %d, cells %v", text, r.End, r.Cells)
		}
	}
	for _, n := range []int{0, 1, 2, 63, 64} {
		s := bare("Work")
		s.Cells = n
		if r := played(t, "cells", s); !slices.Equal(r.Cells, zeros(n)) {
			t.Errorf("%d cells: %v", n, r.Cells)
		}
	}
}
