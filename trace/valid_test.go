package trace

import (
	"fmt"
	"math"
	"slices"
	"testing"

	"quern/api"
)

// broken is a system that may not be.
func broken() api.System {
	s := plain()
	s.Rooms = []int{1, 0}
	return s
}

func TestOrderOfErrors(t *testing.T) { // sched.Valid's error; ErrLong; ErrTrace; ahead of all others
	long := times(api.MaxSteps+1, api.Event{Op: api.OpWork})
	wrong := events("0 Work; 0 Work; 1 Work; 0 Work")
	longAndWrong := slices.Concat(wrong, long)
	wantRefused(t, "a system that may not be", broken(), events("0 Work"), 0, api.ErrSystem)
	wantRefused(t, "and an empty list", broken(), nil, 0, api.ErrSystem)
	wantRefused(t, "and a list that is too long", broken(), long, 0, api.ErrSystem)
	wantRefused(t, "and no trace", broken(), wrong, 0, api.ErrSystem)
	wantRefused(t, "and both", broken(), longAndWrong, 0, api.ErrSystem)
	wantRefused(t, "no system at all", api.System{}, wrong, 0, api.ErrSystem)
	wantRefused(t, "too long", plain(), long, 0, api.ErrLong)
	wantRefused(t, "too long and no trace", plain(), longAndWrong, 0, api.ErrLong)
	wantRefused(t, "too long with its last event wrong", plain(), append(long[:api.MaxSteps:api.MaxSteps], api.Event{}), 0, api.ErrLong)
	wantRefused(t, "no trace", plain(), wrong, 2, api.ErrTrace)
	wantRefused(t, "no trace at the last event there may be", plain(), append(long[:api.MaxSteps-1:api.MaxSteps-1], api.Event{}), api.MaxSteps-1, api.ErrTrace)
	wantValid(t, "as long as it may be", plain(), long[:api.MaxSteps])
	for what, s := range map[string]api.System{
		"a wrong instruction": {Progs: [][]api.Inst{{{Op: 17}}}},
		"too many cells":      {Progs: [][]api.Inst{{}}, Cells: api.MaxShared + 1},
		"locks below 0":       {Progs: [][]api.Inst{{}}, Locks: -1},
		"groups below 0":      {Progs: [][]api.Inst{{}}, Groups: math.MinInt},
		"no program":          {Cells: 1},
	} {
		wantRefused(t, what, s, nil, 0, api.ErrSystem)
	}
}

func TestEmptyList(t *testing.T) { // P3: nil and empty; no event has a number
	for _, l := range [][]api.Event{nil, {}} {
		s := plain()
		wantValid(t, "empty", s, l)
		if n := runnersOf(t, s, l); n != 1 {
			t.Errorf("%d runners", n)
		}
		if len(edgesOf(t, s, l)) > 0 || len(clocksOf(t, s, l)) > 0 || len(racesOf(t, s, l, 10)) > 0 || len(guardsOf(t, s, l, 0)) > 0 {
			t.Errorf("something is told of an empty list")
		}
		for _, i := range []int{-1, 0, 1} {
			is, e := Before(s, l, i, 0)
			row, e2 := Way(s, l, 0, i)
			held, e3 := Held(s, l, i)
			if is || len(row) > 0 || len(held) > 0 || e != api.ErrArg || e2 != api.ErrArg || e3 != api.ErrArg {
				t.Errorf("of event %d: errors %d, %d, %d", i, e, e2, e3)
			}
		}
	}
}

// frame is a list that may be a trace, with one event at least of each operation.
const frame = "0 Start 1 1; 0 Send 0 5; 1 Take 0 5; 1 Set; 0 Sum; 0 Less; 0 Jump; 0 Lock 1; 1 Free 1; 1 Add 1 1; 0 Wait 0; " +
	"0 Read 2; 1 Write 2; 1 Close 0; 0 Take 0 0 shut; 1 Start 0 2; 2 Work -7; 2 End; 0 Work"

// wantWrong holds that an event is wrong wherever it stands in the frame: first, in the middle, last.
func wantWrong(t *testing.T, what string, e api.Event) {
	t.Helper()
	list := events(frame)
	for _, at := range []int{0, 1, len(list) / 2, len(list) - 1, len(list)} {
		wantRefused(t, fmt.Sprint(what, ": ", e), plain(), slices.Insert(slices.Clone(list), at, e), at, api.ErrTrace)
	}
}

// wantRight holds that an event may stand anywhere in the frame.
func wantRight(t *testing.T, what string, e api.Event) {
	t.Helper()
	list := events(frame)
	for at := range len(list) + 1 {
		wantValid(t, fmt.Sprint(what, ": ", e), plain(), slices.Insert(slices.Clone(list), at, e))
	}
}

func TestFrame(t *testing.T) {
	list := events(frame)
	wantValid(t, "the frame", plain(), list)
	for n := range list {
		wantValid(t, "its beginnings", plain(), list[:n])
	}
	if n := runnersOf(t, plain(), list); n != 3 {
		t.Errorf("%d runners", n)
	}
}

func TestOps(t *testing.T) { // Op is one of the table
	for _, op := range []int{0, 17, 18, -1, -6, math.MinInt, math.MaxInt, 1 << 32, 1<<32 + 15} {
		wantWrong(t, "no operation", api.Event{Op: op})
	}
	for _, op := range []int{api.OpSet, api.OpSum, api.OpLess, api.OpJump, api.OpSend, api.OpClose, api.OpAdd, api.OpWait, api.OpRead, api.OpWrite, api.OpStart, api.OpWork, api.OpEnd} {
		wantRight(t, "an operation", api.Event{Op: op})
	}
}

// thingsOf tells how many there are of what A is one of, in the plain system; -1: A is one of nothing.
func thingsOf(op int) int {
	switch names[op] {
	case "Send", "Take", "Close", "Lock", "Free", "Read", "Write":
		return 3
	case "Add", "Wait", "Start":
		return 2
	}
	return -1
}

func TestA(t *testing.T) { // A is a channel, a lock, a group, a cell, a program; of other operations it is anything
	bare := api.System{Progs: [][]api.Inst{{}}}
	for op := 1; op <= 16; op++ {
		many := thingsOf(op)
		for _, a := range []int{-1, math.MinInt, math.MaxInt, 1 << 32, -1 << 32, 64, max(many, 3)} {
			e := api.Event{Op: op, A: a}
			if many < 0 {
				wantRight(t, "any A", e)
				wantValid(t, "any A", bare, []api.Event{e})
				continue
			}
			wantWrong(t, "A past what there is", e)
		}
		if many < 0 {
			continue
		}
		wantWrong(t, "A one past the last", api.Event{Op: op, A: many})
		if op != api.OpStart { // there is a program always
			wantRefused(t, "A where there is none", bare, []api.Event{{Op: op}}, 0, api.ErrTrace)
		}
		for a := range many { // ahead of each all that it asks for
			l := []api.Event{{Op: api.OpSend, A: a}, {Op: op, A: a}}
			if many == 2 {
				l = l[1:]
			}
			wantValid(t, fmt.Sprint(names[op], " of ", a), plain(), l)
		}
	}
	// Of each the system's own number, none of another.
	for what, s := range map[string]api.System{
		"0 Send 1": {Rooms: []int{1, 1}}, "0 Close 1": {Rooms: []int{1, 1}}, "0 Lock 1": {Locks: 2}, "0 Free 1": {Locks: 2}, "0 Add 1": {Groups: 2},
		"0 Wait 1": {Groups: 2}, "0 Read 1": {Cells: 2}, "0 Write 1": {Cells: 2}, "0 Start 1": {Progs: [][]api.Inst{{}}},
	} {
		s.Progs = append(s.Progs, nil)
		wantValid(t, what, s, events(what))
		others := api.System{Progs: make([][]api.Inst, 64), Rooms: slices.Repeat([]int{1}, 64), Groups: 64, Locks: 64, Cells: 64}
		wantValid(t, what, others, events(what))
		if s.Rooms != nil {
			others.Rooms = others.Rooms[:1]
		}
		if s.Locks > 0 {
			others.Locks = 1
		}
		if s.Groups > 0 {
			others.Groups = 1
		}
		if s.Cells > 0 {
			others.Cells = 1
		}
		if len(s.Progs) > 1 {
			others.Progs = others.Progs[:1]
		}
		wantRefused(t, what, others, events(what), 0, api.ErrTrace)
	}
}

func TestWho(t *testing.T) { // 0, or the Value of an OpStart ahead
	for _, who := range []int{-1, 3, 4, 512, math.MinInt, math.MaxInt, 1 << 32} {
		wantWrong(t, "nobody", api.Event{Who: who, Op: api.OpWork})
	}
	for text, wrong := range map[string]int{
		"1 Work": 0, "0 Start 1 0; 1 Work": 1, "0 Work; 1 Start 1 1": 1, "0 Start 1 1; 2 Work": 1, "0 Start 1 1; 2 Start 1 2": 1,
		"0 Start 1 1; 1 Start 1 2; 2 Work; 3 Work; 0 Work": 3, "0 Work; 1 Work; 0 Start 1 1": 1, "0 Start 1 1; 1 Work; 0 Start; 2 Work": 3,
		"0 Start 1 1; -1 Work": 1,
	} {
		wantRefused(t, text, plain(), events(text), wrong, api.ErrTrace)
	}
	for _, text := range []string{"0 Work", "0 Start 1 1; 1 Work; 0 Work", "0 Start 1 1; 1 Start 0 2; 2 Start 0 3; 3 Work; 1 Work; 2 Work; 0 Work", "0 End; 0 Work; 0 End", "0 Start; 0 Work"} {
		wantValid(t, text, plain(), events(text))
	}
}

func TestStart(t *testing.T) { // its Value is 0, or the number of runners so far, below MaxRunner
	for text, wrong := range map[string]int{
		"0 Start 1 2": 0, "0 Start 1 -1": 0, "0 Start 1 512": 0, "0 Start 1 1; 0 Start 1 1": 1, "0 Start 1 1; 0 Start 1 3": 1, "0 Start 1 0; 0 Start 1 2": 1,
		"0 Start 1 1; 0 Start 1 0; 0 Start 1 2; 0 Start 1 2": 3, "0 Start 1 1; 0 Start 1 -2": 1, "0 Start 1 9223372036854775807": 0,
		"0 Start 1 -9223372036854775808": 0, "0 Work; 0 Start 2 1": 1, "0 Start -1 1": 0,
	} {
		wantRefused(t, text, plain(), events(text), wrong, api.ErrTrace)
	}
	for text, runners := range map[string]int{
		"": 1, "0 Work": 1, "0 Start 1 0": 1, "0 Start; 0 Start; 0 Start": 1, "0 Start 1 1": 2, "0 Start 0 1; 0 Start 1 2": 3, "0 Start 1 1; 0 Start; 1 Start 0 2; 1 Work": 3,
	} {
		wantValid(t, text, plain(), events(text))
		if n := runnersOf(t, plain(), events(text)); n != runners {
			t.Errorf("%s: %d runners, want %d", text, n, runners)
		}
	}
	most := starts(1, api.MaxRunner-1)
	wantValid(t, "MaxRunner runners", plain(), most)
	if n := runnersOf(t, plain(), most); n != api.MaxRunner {
		t.Errorf("%d runners", n)
	}
	wantRefused(t, "one more", plain(), starts(1, api.MaxRunner), api.MaxRunner-1, api.ErrTrace)
	wantRefused(t, "the last one again", plain(), append(slices.Clone(most), api.Event{Op: api.OpStart, Value: api.MaxRunner - 1}), api.MaxRunner-1, api.ErrTrace)
	crowd := append(slices.Clone(most), events("511 Start 1 0; 511 Work; 0 Start")...)
	wantValid(t, "one that was not made", plain(), crowd)
	if n := runnersOf(t, plain(), crowd); n != api.MaxRunner {
		t.Errorf("%d runners", n)
	}
	wantRefused(t, "512", plain(), append(crowd, events("512 Work")...), len(crowd), api.ErrTrace)
}

func TestTakes(t *testing.T) { // without Shut: more OpSend than OpTake without Shut ahead, of its channel; with Shut: an OpClose of it
	for text, wrong := range map[string]int{
		"0 Take 0": 0, "0 Send 1; 0 Take 0": 1, "0 Send 0; 0 Take 0; 0 Take 0": 2, "0 Take 0; 0 Send 0": 0, "0 Send 0; 0 Take 0; 0 Work; 0 Take 0; 0 Send 0": 3,
		"0 Close 0; 0 Take 0": 1, "0 Send 2; 0 Send 2; 0 Take 2; 0 Take 2; 0 Take 2": 4, "0 Send 0 0 shut; 0 Take 0; 0 Take 0": 2,
		"0 Take 0 0 shut": 0, "0 Close 1; 0 Take 0 0 shut": 1, "0 Send 0; 0 Take 0 0 shut": 1, "0 Take 0 0 shut; 0 Close 0": 0, "0 Send 0; 0 Take 0; 0 Take 0 0 shut; 0 Close 0": 2,
	} {
		wantRefused(t, text, plain(), events(text), wrong, api.ErrTrace)
	}
	for _, text := range []string{
		"0 Send 0; 0 Take 0", "0 Send 0; 0 Send 0; 0 Send 0; 0 Take 0; 0 Take 0; 0 Take 0", "0 Close 0; 0 Send 0; 0 Take 0", "0 Close 0; 0 Close 0; 0 Take 0 0 shut; 0 Take 0 3 shut",
		"0 Send 0; 0 Close 0; 0 Take 0 0 shut; 0 Take 0 0 shut; 0 Take 0", "0 Send 0 5; 0 Take 0 6", "0 Send 0; 0 Send 1; 0 Take 1; 0 Take 0", "0 Close 2; 0 Take 2 0 shut; 0 Send 2; 0 Take 2",
	} {
		wantValid(t, text, plain(), events(text))
	}
}

func TestLocks(t *testing.T) { // an OpLock stands where its lock is held by nobody; whoever gives it back
	for text, wrong := range map[string]int{
		"0 Lock 0; 0 Lock 0": 1, "0 Lock 0; 0 Free 1; 0 Lock 0": 2, "0 Lock 0; 0 Free 0; 0 Lock 0; 0 Lock 0": 3, "0 Free 0; 0 Lock 0; 0 Lock 0; 0 Free 0": 2,
		"0 Start 1 1; 0 Lock 2; 1 Lock 2": 2, "0 Free 0; 0 Free 0; 0 Lock 0; 0 Work; 0 Lock 0": 4, "0 Lock 0; 0 Lock 1; 0 Free 1; 0 Lock 1; 0 Lock 0": 4,
		"0 Lock 0; 0 End; 0 Lock 0": 2,
	} {
		wantRefused(t, text, plain(), events(text), wrong, api.ErrTrace)
	}
	for _, text := range []string{
		"0 Lock 0; 0 Free 0; 0 Lock 0", "0 Lock 0; 0 Lock 1; 0 Lock 2", "0 Free 0; 0 Lock 0", "0 Start 1 1; 0 Lock 0; 1 Free 0; 1 Lock 0; 0 Free 0; 0 Lock 0",
		"0 Lock 0; 0 Free 0; 0 Free 0; 0 Lock 0", "0 Free 1; 0 Free 1",
	} {
		wantValid(t, text, plain(), events(text))
	}
}

func TestWhatIsNoRule(t *testing.T) { // what section 'Words' says nothing of may be
	for op := 1; op <= 16; op++ {
		for _, value := range []int{-1, 3, math.MinInt, math.MaxInt} {
			if op != api.OpStart && op != api.OpTake && op != api.OpLock {
				wantRight(t, "any Value", api.Event{Op: op, Value: value})
			}
		}
		if op != api.OpTake && op != api.OpLock {
			wantRight(t, "Shut of what takes nothing", api.Event{Op: op, Shut: true})
		}
	}
	for _, text := range []string{"0 Wait 0", "0 Add 0 3; 0 Wait 0", "0 Add 0 -5; 0 Add 0", "0 Close 0; 0 Close 0", "0 Close 0; 0 Send 0", "0 End; 0 Work", "0 Write 0 5; 0 Read 0 6"} {
		wantValid(t, text, plain(), events(text))
	}
}

func TestFirstWrongEvent(t *testing.T) { // of several the first is told
	wantRefused(t, "all", plain(), events("1 Work; 2 Work; 3 Work"), 0, api.ErrTrace)
	wantRefused(t, "three", plain(), events("0 Work; 0 Lock 0; 0 Lock 0; 1 Work; 0 Take 0"), 2, api.ErrTrace)
	wantRefused(t, "what was wrong did not happen", plain(), events("0 Start 1 5; 5 Work"), 0, api.ErrTrace)
}
