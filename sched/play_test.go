package sched

import (
	"fmt"
	"math"
	"slices"
	"strings"
	"testing"

	"quern/api"
)

// told is a system with the run that it has by some picks.
type told struct {
	what    string
	s       api.System
	picks   []int
	end     int
	fault   api.Errno
	events  string
	runners int
	cells   []int
}

// want plays the system and holds all that is told of it. Cells that are not told are 0.
func (w told) want(t testing.TB) {
	t.Helper()
	r := played(t, w.what, w.s, w.picks...)
	wantEvents(t, w.what, r, w.events)
	cells := w.cells
	if cells == nil {
		cells = make([]int, w.s.Cells)
	}
	if r.End != w.end || r.Fault != w.fault || r.Runners != w.runners || !slices.Equal(r.Cells, cells) {
		t.Errorf("%s: end %d, fault %d, %d runners, cells %v, want %d, %d, %d, %v", w.what, r.End, r.Fault, r.Runners, r.Cells, w.end, w.fault, w.runners, cells)
	}
}

func TestExamples(t *testing.T) { // the chapter's
	s := bare("Start 1; Set 0 7; Send 0 0; Close 0", "Take 0 1 2; Jump 0")
	s.Rooms = []int{1}
	told{"example 1", s, nil, api.EndDone, 0,
		"0 Start 1 1; 0 Set 0 0; 0 Send 0 7; 0 Close 0 0; 1 Take 0 7; 1 Jump 0 0; 1 Take 0 7 shut", 2, nil}.want(t)
	s = bare("Take 0 0 1")
	s.Rooms = []int{1}
	told{"example 2", s, nil, api.EndStuck, 0, "", 1, nil}.want(t)
	s = bare("Close 0; Close 0")
	s.Rooms = []int{1}
	told{"example 3", s, nil, api.EndFault, api.ErrClosed, "0 Close 0 0; 0 Close 0 0", 1, nil}.want(t)
}

func TestRegisters(t *testing.T) { // SC2, SC3: OpSet, OpSum, OpWork
	for _, w := range []told{
		{"at first 0", bare("Work 1 0; Work 2 1; Work 3 6; Work 4 7"), nil, api.EndDone, 0, "0 Work 1 0; 0 Work 2 0; 0 Work 3 0; 0 Work 4 0", 1, nil},
		{"set", bare("Set 3 -5; Work 9 3; Work 9 2; Set 3 8; Work 9 3"), nil, api.EndDone, 0, "0 Set 0 0; 0 Work 9 -5; 0 Work 9 0; 0 Set 0 0; 0 Work 9 8", 1, nil},
		{"sum", bare("Set 1 5; Set 2 7; Sum 1 2; Work 0 1; Work 0 2"), nil, api.EndDone, 0, "0 Set 0 0; 0 Set 0 0; 0 Sum 0 0; 0 Work 0 12; 0 Work 0 7", 1, nil},
		{"with itself", bare("Set 1 -6; Sum 1 1; Work 0 1"), nil, api.EndDone, 0, "0 Set 0 0; 0 Sum 0 0; 0 Work 0 -12", 1, nil},
		{"any work", bare(fmt.Sprint("Work ", math.MinInt, "; Work ", math.MaxInt, "; Work -1 7")), nil, api.EndDone, 0,
			"0 Work -9223372036854775808 0; 0 Work 9223372036854775807 0; 0 Work -1 0", 1, nil},
	} {
		w.want(t)
	}
	for r := range 8 {
		text := fmt.Sprintf("Set %d 77", r)
		right := "0 Set 0 0"
		for i := range 8 {
			text += fmt.Sprintf("; Work 1 %d", i)
			right += fmt.Sprintf("; 0 Work 1 %d", map[bool]int{true: 77}[i == r])
		}
		told{fmt.Sprint("register ", r), bare(text), nil, api.EndDone, 0, right, 1, nil}.want(t)
	}
}

func TestSumOverTheEdge(t *testing.T) { // SC2: modulo 2^64 as an int
	for _, x := range [][3]int{
		{math.MaxInt, 1, math.MinInt}, {1, math.MaxInt, math.MinInt}, {math.MinInt, -1, math.MaxInt}, {math.MaxInt, math.MaxInt, -2},
		{math.MinInt, math.MinInt, 0}, {math.MinInt, math.MaxInt, -1}, {math.MaxInt, 0, math.MaxInt}, {math.MinInt, 0, math.MinInt}, {3, -3, 0},
	} {
		s := bare(fmt.Sprintf("Set 0 %d; Set 7 %d; Sum 0 7; Work 0 0; Work 0 7", x[0], x[1]))
		right := fmt.Sprintf("0 Set 0 0; 0 Set 0 0; 0 Sum 0 0; 0 Work 0 %d; 0 Work 0 %d", x[2], x[1])
		told{fmt.Sprint(x), s, nil, api.EndDone, 0, right, 1, nil}.want(t)
	}
}

func TestLess(t *testing.T) { // SC2: below, not as great
	for _, x := range []struct {
		a, b int
		less bool
	}{
		{0, 0, false}, {0, 1, true}, {1, 0, false}, {-1, 0, true}, {0, -1, false}, {5, 5, false}, {math.MinInt, math.MaxInt, true},
		{math.MaxInt, math.MinInt, false}, {math.MinInt, math.MinInt, false}, {math.MaxInt, math.MaxInt, false}, {math.MinInt, 0, true}, {-2, math.MaxInt, true},
	} {
		s := bare(fmt.Sprintf("Set 2 %d; Set 5 %d; Less 2 5 4; Work 1; Work 2", x.a, x.b))
		right := "0 Set 0 0; 0 Set 0 0; 0 Less 0 0; 0 Work 1 0; 0 Work 2 0"
		if x.less {
			right = "0 Set 0 0; 0 Set 0 0; 0 Less 0 0; 0 Work 2 0"
		}
		told{fmt.Sprint(x), s, nil, api.EndDone, 0, right, 1, nil}.want(t)
	}
	told{"than itself", bare("Set 1 3; Less 1 1 3; Work 5"), nil, api.EndDone, 0, "0 Set 0 0; 0 Less 0 0; 0 Work 5 0", 1, nil}.want(t)
}

func TestJumps(t *testing.T) { // SC2: OpLess, OpJump and OpTake to the place behind the last instruction, to place 0, on and back
	closed := "Close 0; "
	for _, w := range []told{
		{"jump behind the end", shared("Jump 0 0 2; Work 1"), nil, api.EndDone, 0, "0 Jump 0 0", 1, nil},
		{"less behind the end", shared("Set 1 1; Less 0 1 3; Work 1"), nil, api.EndDone, 0, "0 Set 0 0; 0 Less 0 0", 1, nil},
		{"take behind the end", shared(closed + "Take 0 0 3; Work 1"), nil, api.EndDone, 0, "0 Close 0 0; 0 Take 0 0 shut", 1, nil},
		{"jump to the next", shared("Jump 0 0 1; Work 1"), nil, api.EndDone, 0, "0 Jump 0 0; 0 Work 1 0", 1, nil},
		{"jump over some", shared("Jump 0 0 3; Work 1; Work 2; Work 3"), nil, api.EndDone, 0, "0 Jump 0 0; 0 Work 3 0", 1, nil},
		{"less to place 0", shared("Less 0 1 3; Set 1 1; Jump 0 0 0; Set 1 0; Less 1 0 0; Set 0 -1; Less 0 1 8; Work 1"), nil, api.EndDone, 0,
			"0 Less 0 0; 0 Set 0 0; 0 Jump 0 0; 0 Less 0 0; 0 Set 0 0; 0 Less 0 0; 0 Set 0 0; 0 Less 0 0", 1, nil},
		{"less back to place 0", shared("Sum 0 1; Set 1 1; Set 2 2; Less 0 2 0; Work 7 0"), nil, api.EndDone, 0,
			"0 Sum 0 0; 0 Set 0 0; 0 Set 0 0; 0 Less 0 0; 0 Sum 0 0; 0 Set 0 0; 0 Set 0 0; 0 Less 0 0; 0 Sum 0 0; 0 Set 0 0; 0 Set 0 0; 0 Less 0 0; 0 Work 7 2", 1, nil},
		{"take to place 0", shared("Less 0 1 4; Close 0; Set 1 1; Take 0 2 0; Work 3"), nil, api.EndDone, 0,
			"0 Less 0 0; 0 Close 0 0; 0 Set 0 0; 0 Take 0 0 shut; 0 Less 0 0; 0 Work 3 0", 1, nil},
		{"a take with a value goes on at the next", shared("Send 0; Close 0; Take 0 0 4; Work 1; Work 2"), nil, api.EndDone, 0,
			"0 Send 0 0; 0 Close 0 0; 0 Take 0 0; 0 Work 1 0; 0 Work 2 0", 1, nil},
	} {
		w.want(t)
	}
	// To its own place: it never leaves it.
	for text, event := range map[string]string{"Jump 0 0 0": "0 Jump 0 0", "Set 1 1; Less 0 1 1": "0 Less 0 0", "Close 1; Take 1 5 1": "0 Take 1 0 shut"} {
		r := played(t, text, shared(text))
		wantEnd(t, text, r, api.EndSteps, 0, api.MaxSteps)
		if last := show(r.Events[1:]); last != strings.TrimSuffix(strings.Repeat(event+"; ", api.MaxSteps-1), "; ") {
			t.Errorf("%s: other events", text)
		}
	}
}

func TestEnd(t *testing.T) { // SC2: OpEnd in the midst, and what comes behind it for others
	for _, w := range []told{
		{"first", bare("End; Work 1"), nil, api.EndDone, 0, "0 End 0 0", 1, nil},
		{"in the midst", bare("Work 1; End; Work 2"), nil, api.EndDone, 0, "0 Work 1 0; 0 End 0 0", 1, nil},
		{"last", bare("Work 1; End"), nil, api.EndDone, 0, "0 Work 1 0; 0 End 0 0", 1, nil},
		{"of one of two", bare("Start 1; Start 1; Work 1", "Work 2; End; Work 3"), []int{0, 1, 1, 0, 1}, api.EndDone, 0,
			"0 Start 1 1; 1 Work 2 0; 1 End 0 0; 0 Start 1 2; 2 Work 2 0; 0 Work 1 0; 2 End 0 0", 3, nil},
		{"of the first, the others go on", bare("Start 1; End", "Work 2; Work 3"), []int{0, 0}, api.EndDone, 0, "0 Start 1 1; 0 End 0 0; 1 Work 2 0; 1 Work 3 0", 2, nil},
		{"a first program without an instruction", bare(""), []int{3, 4}, api.EndDone, 0, "", 1, nil},
		{"a first program without an instruction, ahead of others", bare("", "Work 1"), nil, api.EndDone, 0, "", 1, nil},
	} {
		w.want(t)
	}
	s := api.System{Progs: [][]api.Inst{{}}, Rooms: []int{}, Cells: 2}
	told{"with cells", s, []int{}, api.EndDone, 0, "", 1, []int{0, 0}}.want(t)
}

func TestChannels(t *testing.T) { // SC2, SC3: OpSend, OpTake, OpClose
	for _, w := range []told{
		{"in that order", shared("Set 0 5; Set 1 -6; Set 2 7; Send 2 0; Send 2 1; Send 2 2; Take 2 5 0; Take 2 5 0; Take 2 6 0; Work 0 5; Work 0 6"), nil, api.EndDone, 0,
			"0 Set 0 0; 0 Set 0 0; 0 Set 0 0; 0 Send 2 5; 0 Send 2 -6; 0 Send 2 7; 0 Take 2 5; 0 Take 2 -6; 0 Take 2 7; 0 Work 0 -6; 0 Work 0 7", 1, nil},
		{"each for itself", shared("Set 0 5; Send 1 0; Set 0 6; Send 0 0; Take 1 1; Take 0 2"), nil, api.EndDone, 0,
			"0 Set 0 0; 0 Send 1 5; 0 Set 0 0; 0 Send 0 6; 0 Take 1 5; 0 Take 0 6", 1, nil},
		{"what is sent is a copy", shared("Set 0 5; Send 1 0; Set 0 6; Send 1 0; Take 1 0; Take 1 0"), nil, api.EndDone, 0,
			"0 Set 0 0; 0 Send 1 5; 0 Set 0 0; 0 Send 1 6; 0 Take 1 5; 0 Take 1 6", 1, nil},
		{"into a full one", shared("Send 0; Send 0"), nil, api.EndStuck, 0, "0 Send 0 0", 1, nil},
		{"into a full one of room 2", shared("Send 1; Send 1; Send 1"), nil, api.EndStuck, 0, "0 Send 1 0; 0 Send 1 0", 1, nil},
		{"into a closed one", shared("Set 3 9; Close 0; Send 0 3; Work 1"), nil, api.EndFault, api.ErrSent, "0 Set 0 0; 0 Close 0 0; 0 Send 0 9", 1, nil},
		{"into a closed one that is full", shared("Set 3 9; Send 0; Close 0; Send 0 3; Work 1"), nil, api.EndFault, api.ErrSent,
			"0 Set 0 0; 0 Send 0 0; 0 Close 0 0; 0 Send 0 9", 1, nil},
		{"into a closed one that holds a value", shared("Send 1; Close 1; Send 1 3"), nil, api.EndFault, api.ErrSent, "0 Send 1 0; 0 Close 1 0; 0 Send 1 0", 1, nil},
		{"another one is closed", shared("Close 1; Send 0; Close 0; Take 0 0"), nil, api.EndDone, 0, "0 Close 1 0; 0 Send 0 0; 0 Close 0 0; 0 Take 0 0", 1, nil},
		{"out of an empty one", shared("Take 0 0 0"), nil, api.EndStuck, 0, "", 1, nil},
		{"out of one that became empty", shared("Send 0; Take 0; Take 0 0 3"), nil, api.EndStuck, 0, "0 Send 0 0; 0 Take 0 0", 1, nil},
		{"out of a closed one that holds values", shared("Set 0 4; Send 1 0; Set 0 5; Send 1 0; Close 1; Take 1 1 8; Take 1 2 8; Take 1 3 8; Work 9 3"), nil, api.EndDone, 0,
			"0 Set 0 0; 0 Send 1 4; 0 Set 0 0; 0 Send 1 5; 0 Close 1 0; 0 Take 1 4; 0 Take 1 5; 0 Take 1 0 shut; 0 Work 9 0", 1, nil},
		{"out of a closed one the register stays", shared("Set 4 44; Close 2; Take 2 4 3; Work 0 4; Take 2 4 5; Work 1 4"), nil, api.EndDone, 0,
			"0 Set 0 0; 0 Close 2 0; 0 Take 2 44 shut; 0 Work 0 44; 0 Take 2 44 shut; 0 Work 1 44", 1, nil},
		{"out of a closed one on at C", shared("Close 0; Take 0 0 3; Work 1; Work 2"), nil, api.EndDone, 0, "0 Close 0 0; 0 Take 0 0 shut; 0 Work 2 0", 1, nil},
		{"a value that is 0 is one", shared("Set 2 3; Send 0 7; Close 0; Take 0 2 5; Work 0 2"), nil, api.EndDone, 0, "0 Set 0 0; 0 Send 0 0; 0 Close 0 0; 0 Take 0 0; 0 Work 0 0", 1, nil},
		{"closed twice", shared("Close 2; Work 1; Close 2; Work 1"), nil, api.EndFault, api.ErrClosed, "0 Close 2 0; 0 Work 1 0; 0 Close 2 0", 1, nil},
		{"two are closed", shared("Close 2; Close 1; Close 0"), nil, api.EndDone, 0, "0 Close 2 0; 0 Close 1 0; 0 Close 0 0", 1, nil},
		{"closed by two", shared("Start 1; Close 1", "Close 1"), nil, api.EndFault, api.ErrClosed, "0 Start 1 1; 0 Close 1 0; 1 Close 1 0", 2, nil},
		{"room again behind a take", shared("Send 0; Take 0; Send 0; Take 0"), nil, api.EndDone, 0, "0 Send 0 0; 0 Take 0 0; 0 Send 0 0; 0 Take 0 0", 1, nil},
		{"one waits with a value till another takes", shared("Start 1; Set 0 8; Send 0 0; Send 0 0", "Take 0 1"), nil, api.EndDone, 0,
			"0 Start 1 1; 0 Set 0 0; 0 Send 0 8; 1 Take 0 8; 0 Send 0 8", 2, nil},
		{"one waits with a value till another closes", shared("Start 1; Send 0; Send 0", "Close 0"), nil, api.EndFault, api.ErrSent,
			"0 Start 1 1; 0 Send 0 0; 1 Close 0 0; 0 Send 0 0", 2, nil},
		{"one waits for a value till another closes", shared("Start 1; Take 0 0 2", "Close 0"), nil, api.EndDone, 0, "0 Start 1 1; 1 Close 0 0; 0 Take 0 0 shut", 2, nil},
	} {
		w.want(t)
	}
}

func TestRooms(t *testing.T) { // SC2, SC5: no channel holds more than its room, and none less
	for _, room := range []int{1, 2, 3, 100, 1023, 1024} {
		s := bare("Set 1 1; Send 0 0; Sum 0 1; Jump 0 0 1")
		s.Rooms = []int{room}
		r := played(t, "a full channel", s)
		wantEnd(t, fmt.Sprint("room ", room), r, api.EndStuck, 0, 1+3*room)
		// Filled, closed, emptied: all come out in their order.
		s = bare(fmt.Sprintf("Set 1 1; Set 2 %d; Send 1 0; Sum 0 1; Less 0 2 2; Close 1; Take 1 3 8; Jump 0 0 6", room))
		s.Rooms = []int{1, room}
		r = played(t, "emptied", s)
		wantEnd(t, fmt.Sprint("room ", room, ", emptied"), r, api.EndDone, 0, 2+3*room+1+2*room+1)
		next := 0
		for _, e := range r.Events {
			if e.Op == api.OpTake && !e.Shut {
				if e.Value != next {
					t.Errorf("room %d: %d comes out as number %d", room, e.Value, next)
				}
				next++
			}
		}
		if last := r.Events[len(r.Events)-1]; next != room || last != (api.Event{Op: api.OpTake, A: 1, Value: room - 1, Shut: true}) {
			t.Errorf("room %d: %d came out, then %v", room, next, last)
		}
	}
}

func TestLocks(t *testing.T) { // SC2, SC3: OpLock, OpFree
	for _, w := range []told{
		{"held and given back", shared("Lock 1; Free 1; Lock 1; Free 1"), nil, api.EndDone, 0, "0 Lock 1 0; 0 Free 1 0; 0 Lock 1 0; 0 Free 1 0", 1, nil},
		{"held by itself", shared("Lock 0; Lock 0"), nil, api.EndStuck, 0, "0 Lock 0 0", 1, nil},
		{"two", shared("Lock 0; Lock 1; Free 0; Free 1"), nil, api.EndDone, 0, "0 Lock 0 0; 0 Lock 1 0; 0 Free 0 0; 0 Free 1 0", 1, nil},
		{"held by another", shared("Lock 0; Start 1; Work 1; Free 0", "Lock 0; Work 2"), []int{0, 0, 1, 1}, api.EndDone, 0,
			"0 Lock 0 0; 0 Start 1 1; 0 Work 1 0; 0 Free 0 0; 1 Lock 0 0; 1 Work 2 0", 2, nil},
		{"given back by another", shared("Lock 0; Start 1; Lock 0; Work 1", "Free 0"), nil, api.EndDone, 0, "0 Lock 0 0; 0 Start 1 1; 1 Free 0 0; 0 Lock 0 0; 0 Work 1 0", 2, nil},
		{"kept by one that has ended", shared("Start 1; Work 1; Lock 1", "Lock 1"), []int{0, 1}, api.EndStuck, 0, "0 Start 1 1; 1 Lock 1 0; 0 Work 1 0", 2, nil},
		{"free at first", shared("Work 1; Free 0; Work 1"), nil, api.EndFault, api.ErrFree, "0 Work 1 0; 0 Free 0 0", 1, nil},
		{"given back twice", shared("Lock 1; Free 1; Free 1"), nil, api.EndFault, api.ErrFree, "0 Lock 1 0; 0 Free 1 0; 0 Free 1 0", 1, nil},
		{"another one is held", shared("Lock 0; Free 1"), nil, api.EndFault, api.ErrFree, "0 Lock 0 0; 0 Free 1 0", 1, nil},
		{"given back twice, by another", shared("Lock 1; Start 1; Free 1", "Free 1"), nil, api.EndFault, api.ErrFree, "0 Lock 1 0; 0 Start 1 1; 0 Free 1 0; 1 Free 1 0", 2, nil},
	} {
		w.want(t)
	}
}

func TestGroups(t *testing.T) { // SC2, SC3: OpAdd, OpWait
	most := fmt.Sprint(math.MaxInt)
	least := fmt.Sprint(math.MinInt)
	for _, w := range []told{
		{"at first 0", shared("Wait 0; Wait 1; Wait 0"), nil, api.EndDone, 0, "0 Wait 0 0; 0 Wait 1 0; 0 Wait 0 0", 1, nil},
		{"not 0", shared("Add 1 1; Wait 1"), nil, api.EndStuck, 0, "0 Add 1 1", 1, nil},
		{"another one is not 0", shared("Add 1 1; Wait 0; Wait 1"), nil, api.EndStuck, 0, "0 Add 1 1; 0 Wait 0 0", 1, nil},
		{"back to 0", shared("Add 1 3; Add 1 -1; Add 1 -2; Wait 1"), nil, api.EndDone, 0, "0 Add 1 3; 0 Add 1 2; 0 Add 1 0; 0 Wait 1 0", 1, nil},
		{"by 0", shared("Add 0 0; Wait 0; Add 0 5; Add 0 0; Wait 0"), nil, api.EndStuck, 0, "0 Add 0 0; 0 Wait 0 0; 0 Add 0 5; 0 Add 0 5", 1, nil},
		{"below 0", shared("Work 1; Add 0 -1; Work 1"), nil, api.EndFault, api.ErrGroup, "0 Work 1 0; 0 Add 0 -1", 1, nil},
		{"below 0, from above", shared("Add 0 2; Add 0 -5; Work 1"), nil, api.EndFault, api.ErrGroup, "0 Add 0 2; 0 Add 0 -3", 1, nil},
		{"up to the edge", shared("Add 0 " + most + "; Add 0 0; Add 0 -" + most + "; Wait 0"), nil, api.EndDone, 0,
			"0 Add 0 " + most + "; 0 Add 0 " + most + "; 0 Add 0 0; 0 Wait 0 0", 1, nil},
		{"over the edge", shared("Add 0 " + most + "; Add 0 1; Wait 0"), nil, api.EndFault, api.ErrGroup, "0 Add 0 " + most + "; 0 Add 0 " + least, 1, nil},
		{"over the edge, by as much", shared("Add 0 " + most + "; Add 0 " + most), nil, api.EndFault, api.ErrGroup, "0 Add 0 " + most + "; 0 Add 0 -2", 1, nil},
		{"by the least", shared("Add 0 " + least), nil, api.EndFault, api.ErrGroup, "0 Add 0 " + least, 1, nil},
		{"from the greatest by the least", shared("Add 0 " + most + "; Add 0 " + least), nil, api.EndFault, api.ErrGroup, "0 Add 0 " + most + "; 0 Add 0 -1", 1, nil},
		{"one waits till another is done", shared("Add 0 1; Start 1; Wait 0; Work 1", "Work 2; Add 0 -1"), nil, api.EndDone, 0,
			"0 Add 0 1; 0 Start 1 1; 1 Work 2 0; 1 Add 0 0; 0 Wait 0 0; 0 Work 1 0", 2, nil},
	} {
		w.want(t)
	}
}

func TestCells(t *testing.T) { // SC2, SC3: OpRead, OpWrite
	for _, w := range []told{
		{"at first 0", shared("Set 0 5; Read 1 0; Work 0 0"), nil, api.EndDone, 0, "0 Set 0 0; 0 Read 0 0; 0 Work 0 0", 1, nil},
		{"written and read", shared("Set 0 1; Set 1 9; Write 0 1; Read 0 2; Work 3 2; Work 3 1"), nil, api.EndDone, 0,
			"0 Set 0 0; 0 Set 0 0; 0 Write 1 9; 0 Read 1 9; 0 Work 3 9; 0 Work 3 9", 1, []int{0, 9, 0}},
		{"by a register above", shared("Set 0 3; Set 1 9; Write 0 1; Set 0 8; Write 0 1; Set 0 5; Read 0 3; Read 4 3"), nil, api.EndDone, 0,
			"0 Set 0 0; 0 Set 0 0; 0 Write 0 9; 0 Set 0 0; 0 Write 2 9; 0 Set 0 0; 0 Read 2 9; 0 Read 0 9", 1, []int{9, 0, 9}},
		{"by a register below 0", shared("Set 0 -1; Set 1 7; Write 0 1; Set 0 -3; Write 0 1; Set 0 -5; Read 0 2; Set 0 -4; Read 0 2"), nil, api.EndDone, 0,
			"0 Set 0 0; 0 Set 0 0; 0 Write 2 7; 0 Set 0 0; 0 Write 0 7; 0 Set 0 0; 0 Read 1 0; 0 Set 0 0; 0 Read 2 7", 1, []int{7, 0, 7}},
		{"by the register that it reads into", shared("Set 0 1; Set 1 2; Write 0 1; Read 0 0; Work 1 0; Read 0 0"), nil, api.EndDone, 0,
			"0 Set 0 0; 0 Set 0 0; 0 Write 1 2; 0 Read 1 2; 0 Work 1 2; 0 Read 2 0", 1, []int{0, 2, 0}},
		{"by the register that it writes", shared("Set 0 -1; Write 0 0"), nil, api.EndDone, 0, "0 Set 0 0; 0 Write 2 -1", 1, []int{0, 0, -1}},
		{"by two", shared("Start 1; Set 0 4; Write 7 0; Read 7 1", "Set 0 5; Write 7 0"), []int{0, 1, 1, 1, 0}, api.EndDone, 0,
			"0 Start 1 1; 1 Set 0 0; 1 Write 0 5; 0 Set 0 0; 0 Write 0 4; 0 Read 0 4", 2, []int{4, 0, 0}},
	} {
		w.want(t)
	}
}

func TestCellOfRegister(t *testing.T) { // SC2: the rest, 0 or more
	for _, cells := range []int{1, 2, 3, 7, 63, 64} {
		for _, n := range append([]int{0, 1, -1, 2, -2, 63, 64, 65, -63, -64, -65, 1000, -1000}, ends...) {
			s := bare(fmt.Sprintf("Set 3 %d; Set 4 8; Write 3 4; Read 3 5", n))
			s.Cells = cells
			at := around(n, cells)
			right := make([]int, cells)
			right[at] = 8
			told{fmt.Sprint(n, " of ", cells), s, nil, api.EndDone, 0, fmt.Sprintf("0 Set 0 0; 0 Set 0 0; 0 Write %d 8; 0 Read %d 8", at, at), 1, right}.want(t)
		}
	}
}

func TestStart(t *testing.T) { // SC2, SC3: OpStart
	for _, w := range []told{
		{"with the registers as they are", bare("Set 0 3; Set 7 4; Start 1; Set 0 9; Work 1 0", "Work 2 0; Work 2 7; Set 7 5; Work 2 1"), nil, api.EndDone, 0,
			"0 Set 0 0; 0 Set 0 0; 0 Start 1 1; 0 Set 0 0; 0 Work 1 9; 1 Work 2 3; 1 Work 2 4; 1 Set 0 0; 1 Work 2 0", 2, nil},
		{"registers of their own", bare("Start 1; Set 0 9; Work 1 0", "Set 0 5; Work 2 0"), []int{0, 0, 1, 0}, api.EndDone, 0,
			"0 Start 1 1; 0 Set 0 0; 1 Set 0 0; 0 Work 1 9; 1 Work 2 5", 2, nil},
		{"by rising numbers", bare("Start 1; Start 2; Start 1", "Start 2", "Work 1"), nil, api.EndDone, 0,
			"0 Start 1 1; 0 Start 2 2; 0 Start 1 3; 1 Start 2 4; 2 Work 1 0; 3 Start 2 5; 4 Work 1 0; 5 Work 1 0", 6, nil},
		{"of a program without an instruction", bare("Start 1; Work 1", ""), []int{5, 5}, api.EndDone, 0, "0 Start 1 1; 0 Work 1 0", 2, nil},
		{"of programs without an instruction, and no more", bare("Start 1; Start 1", ""), nil, api.EndDone, 0, "0 Start 1 1; 0 Start 1 2", 3, nil},
		{"of its own program", bare("Less 1 0 4; Set 0 1; Start 0; End; Work 5 0"), nil, api.EndDone, 0,
			"0 Less 0 0; 0 Set 0 0; 0 Start 0 1; 0 End 0 0; 1 Less 0 0; 1 Work 5 1", 2, nil},
		{"one that waits", shared("Start 1; Work 1", "Take 0 0"), nil, api.EndStuck, 0, "0 Start 1 1; 0 Work 1 0", 2, nil},
	} {
		w.want(t)
	}
}

// starter tells a system whose first runner starts so many others of its second program, and then does a work.
func starter(n int, second string) api.System {
	return bare(fmt.Sprintf("Set 1 1; Set 2 %d; Start 1; Sum 0 1; Less 0 2 2; Work 6", n), second)
}

func TestCrowd(t *testing.T) { // SC2: MaxRunner runners in all, whether they have ended or not; one more is ErrCrowd
	for _, second := range []string{"", "Work 1", "Work 1; Work 2", "End; End"} {
		for _, n := range []int{1, 2, 510, 511} {
			r := played(t, "starts", starter(n, second))
			each := map[string]int{"Work 1": 1, "Work 1; Work 2": 2, "End; End": 1}[second]
			wantEnd(t, fmt.Sprint(n, " starts"), r, api.EndDone, 0, 2+3*n+1+n*each)
			if r.Runners != n+1 {
				t.Errorf("%d starts: %d runners", n, r.Runners)
			}
		}
		for _, n := range []int{512, 513, 1000} {
			r := played(t, "starts", starter(n, second))
			wantEnd(t, fmt.Sprint(n, " starts"), r, api.EndFault, api.ErrCrowd, 2+3*511+1)
			last := r.Events[len(r.Events)-1]
			if r.Runners != 512 || last != (api.Event{Op: api.OpStart, A: 1}) || r.Events[len(r.Events)-4].Value != 511 {
				t.Errorf("%d starts: %d runners, last %v", n, r.Runners, last)
			}
		}
	}
	// All of whom start others: the first 511 starts are done, whoever makes them.
	c := chance(5)
	for range 5 {
		r := played(t, "a crowd", bare("Start 0; Start 0; Jump"), c.picks(3000)...)
		starts := 0
		for _, e := range r.Events {
			if e.Op == api.OpStart {
				starts++
				if right := starts % 512; e.Value != right {
					t.Errorf("start %d: runner %d, want %d", starts, e.Value, right)
				}
			}
		}
		wantEnd(t, "a crowd", r, api.EndFault, api.ErrCrowd, len(r.Events))
		if starts != 512 || r.Runners != 512 {
			t.Errorf("%d starts, %d runners", starts, r.Runners)
		}
	}
}
