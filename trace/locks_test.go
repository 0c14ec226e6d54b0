package trace

import (
	"math"
	"slices"
	"testing"

	"quern/api"
)

func wantHeld(t testing.TB, what, list string, i int, right ...int) {
	t.Helper()
	wantValid(t, what, plain(), events(list))
	if got := heldOf(t, plain(), events(list), i); !slices.Equal(got, right) {
		t.Errorf("%s: %s: at %d locks %v, want %v", what, list, i, got, right)
	}
}

func TestHeld(t *testing.T) { // P14.5
	own := "0 Lock 2; 0 Lock 0; 0 Work; 0 Lock 1; 0 Free 2; 0 Work; 0 Free 0; 0 Free 1; 0 Work"
	for i, right := range [][]int{{}, {2}, {0, 2}, {0, 2}, {0, 1, 2}, {0, 1}, {0, 1}, {1}, {}} {
		wantHeld(t, "its own", own, i, right...)
	}
	wantHeld(t, "another's", two+"1 Lock 0; 2 Lock 1; 1 Work", 4, 0)
	wantHeld(t, "another's", two+"1 Lock 0; 2 Lock 1; 2 Work", 4, 1)
	wantHeld(t, "another's", two+"1 Lock 0; 2 Lock 1; 0 Work", 4)
	wantHeld(t, "given back by another", two+"1 Lock 0; 1 Lock 1; 2 Free 0; 1 Work", 5, 1)
	wantHeld(t, "given back by another, of whom nothing is held", two+"1 Lock 0; 2 Free 0; 2 Work", 4)
	wantHeld(t, "taken again", two+"1 Lock 0; 1 Free 0; 1 Lock 0; 1 Work", 5, 0)
	wantHeld(t, "taken by another", two+"1 Lock 0; 2 Free 0; 2 Lock 0; 1 Work; 2 Work", 5)
	wantHeld(t, "taken by another", two+"1 Lock 0; 2 Free 0; 2 Lock 0; 1 Work; 2 Work", 6, 0)
	wantHeld(t, "an OpLock itself is not held ahead", two+"1 Lock 0", 2)
	wantHeld(t, "an OpFree itself is", two+"1 Lock 0; 1 Free 0", 3, 0)
	wantHeld(t, "what comes behind is nothing", two+"1 Work; 1 Lock 0; 1 Lock 1", 2)
	wantHeld(t, "an OpFree behind it is nothing", two+"1 Lock 0; 1 Work; 1 Free 0", 3, 0)
	wantHeld(t, "given back when nobody held it", "0 Free 0; 0 Lock 0; 0 Work", 2, 0)
	for _, i := range []int{-1, 9, 10, math.MinInt, math.MaxInt} {
		if got, e := Held(plain(), events(own), i); e != api.ErrArg || len(got) > 0 {
			t.Errorf("at %d: %v, error %d", i, got, e)
		}
	}
	// All locks that there can be.
	s := plain()
	s.Locks = api.MaxShared
	var l []api.Event
	var right []int
	for lock := range api.MaxShared {
		l = append(l, api.Event{Op: api.OpLock, A: (lock*5 + 3) % api.MaxShared})
		right = append(right, lock)
	}
	l = append(l, api.Event{Op: api.OpWrite})
	if got := heldOf(t, s, l, len(l)-1); !slices.Equal(got, right) {
		t.Errorf("of all locks %v", got)
	}
	if got := guardsOf(t, s, l, 0); !slices.Equal(got, right) {
		t.Errorf("all locks guard: %v", got)
	}
	s.Locks = 0
	if got := heldOf(t, s, events("0 Work"), 0); len(got) > 0 {
		t.Errorf("of no lock %v", got)
	}
}

func wantGuards(t testing.TB, what, list string, cell int, right ...int) {
	t.Helper()
	wantValid(t, what, plain(), events(list))
	if got := guardsOf(t, plain(), events(list), cell); !slices.Equal(got, right) {
		t.Errorf("%s: %s: guards of %d: %v, want %v", what, list, cell, got, right)
	}
}

func TestGuards(t *testing.T) { // P14.5
	wantGuards(t, "no event", "", 0)
	wantGuards(t, "no access", "0 Lock 0; 0 Work; 0 Free 0", 0)
	wantGuards(t, "no access of this cell", "0 Lock 0; 0 Write 1; 0 Free 0", 0)
	wantGuards(t, "one", "0 Lock 0; 0 Write 1; 0 Free 0", 1, 0)
	wantGuards(t, "a read", "0 Lock 1; 0 Read 2; 0 Free 1", 2, 1)
	wantGuards(t, "not given back", "0 Lock 1; 0 Read 2", 2, 1)
	wantGuards(t, "several", "0 Lock 2; 0 Lock 0; 0 Lock 1; 0 Write 0", 0, 0, 1, 2)
	wantGuards(t, "an access that lacks it, first", "0 Write 0; 0 Lock 0; 0 Write 0; 0 Free 0", 0)
	wantGuards(t, "an access that lacks it, last", "0 Lock 0; 0 Write 0; 0 Free 0; 0 Read 0", 0)
	wantGuards(t, "of two one", "0 Lock 0; 0 Lock 1; 0 Write 0; 0 Free 0; 0 Read 0", 0, 1)
	wantGuards(t, "each has one, not the same", two+"1 Lock 0; 1 Write 0; 2 Lock 1; 2 Write 0", 0)
	wantGuards(t, "held by another", two+"1 Lock 0; 2 Write 0; 1 Free 0", 0)
	wantGuards(t, "of both", two+"1 Lock 0; 1 Write 0; 1 Free 0; 2 Lock 0; 2 Write 0; 2 Free 0", 0, 0)
	wantGuards(t, "somebody else gives it back", two+"1 Lock 0; 1 Write 0; 2 Free 0; 2 Lock 0; 2 Write 0; 2 Free 0", 0)
	wantGuards(t, "somebody else gives it back, at the end", two+"1 Lock 0; 1 Write 0; 1 Free 0; 2 Lock 0; 2 Write 0; 0 Free 0", 0)
	wantGuards(t, "somebody else gives it back, ahead of all", two+"1 Lock 0; 2 Free 0; 1 Lock 0; 1 Write 0; 1 Free 0", 0)
	wantGuards(t, "given back when nobody held it", "0 Free 0; 0 Lock 0; 0 Write 0; 0 Free 0", 0)
	wantGuards(t, "given back twice", "0 Lock 0; 0 Write 0; 0 Free 0; 0 Free 0", 0)
	wantGuards(t, "another lock is given back so", two+"1 Lock 0; 1 Lock 1; 1 Write 0; 2 Free 1; 1 Free 0", 0, 0)
	wantGuards(t, "by cells", "0 Lock 0; 0 Write 0; 0 Lock 1; 0 Write 1; 0 Free 0; 0 Write 2", 0, 0)
	wantGuards(t, "by cells", "0 Lock 0; 0 Write 0; 0 Lock 1; 0 Write 1; 0 Free 0; 0 Write 2", 1, 0, 1)
	wantGuards(t, "by cells", "0 Lock 0; 0 Write 0; 0 Lock 1; 0 Write 1; 0 Free 0; 0 Write 2", 2, 1)
	for _, cell := range []int{-1, 3, 4, 63, math.MinInt, math.MaxInt} {
		for _, list := range []string{"", "0 Lock 0; 0 Write 0"} {
			if got, e := Guards(plain(), events(list), cell); e != api.ErrArg || len(got) > 0 {
				t.Errorf("of cell %d: %v, error %d", cell, got, e)
			}
		}
	}
	bare := api.System{Progs: [][]api.Inst{nil}}
	if got, e := Guards(bare, nil, 0); e != api.ErrArg || len(got) > 0 {
		t.Errorf("without a cell: %v, error %d", got, e)
	}
	bare.Cells = 1
	if got := guardsOf(t, bare, events("0 Write 0"), 0); len(got) > 0 {
		t.Errorf("without a lock: %v", got)
	}
}
