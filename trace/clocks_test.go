package trace

import (
	"fmt"
	"slices"
	"testing"

	"quern/api"
)

// wantClocks holds clocks against rows such as {1, 0}.
func wantClocks(t testing.TB, what, list string, right ...[]int) {
	t.Helper()
	wantValid(t, what, plain(), events(list))
	got := clocksOf(t, plain(), events(list))
	if !slices.EqualFunc(got, right, slices.Equal) {
		t.Errorf("%s: %s: clocks %v, want %v", what, list, got, right)
	}
}

func TestClocks(t *testing.T) { // P14.2
	wantClocks(t, "one runner", "0 Work; 0 Set; 0 End", []int{1}, []int{2}, []int{3})
	wantClocks(t, "an OpStart of Value 0", "0 Start 1; 0 Work", []int{1}, []int{2})
	wantClocks(t, "a runner without an event", "0 Work; 0 Start 1 1; 0 Work", []int{1, 0}, []int{2, 0}, []int{3, 0})
	wantClocks(t, "two without an event", "0 Start 1 1; 0 Start 1 2", []int{1, 0, 0}, []int{2, 0, 0})
	wantClocks(t, "started", "0 Start 1 1; 0 Work; 1 Work; 0 Work; 1 Work", []int{1, 0}, []int{2, 0}, []int{1, 1}, []int{3, 0}, []int{1, 2})
	wantClocks(t, "started by one that was started", "0 Start 1 1; 1 Work; 1 Start 1 2; 2 Work; 1 Work; 2 Work",
		[]int{1, 0, 0}, []int{1, 1, 0}, []int{1, 2, 0}, []int{1, 2, 1}, []int{1, 3, 0}, []int{1, 2, 2})
	wantClocks(t, "over a channel and back", two+"1 Work; 2 Work; 1 Send 0; 2 Take 0; 2 Work; 1 Send 0; 1 Work",
		[]int{1, 0, 0}, []int{2, 0, 0}, []int{1, 1, 0}, []int{2, 0, 1}, []int{1, 2, 0}, []int{2, 2, 2}, []int{2, 2, 3}, []int{2, 3, 2}, []int{2, 4, 2})
	wantClocks(t, "closed", two+"1 Close 0; 1 Work; 1 Close 0; 2 Take 0 0 shut",
		[]int{1, 0, 0}, []int{2, 0, 0}, []int{1, 1, 0}, []int{1, 2, 0}, []int{1, 3, 0}, []int{2, 1, 1})
	wantClocks(t, "a lock", two+"1 Lock 0; 1 Work; 1 Free 0; 1 Work; 2 Lock 0; 2 Free 0; 0 Lock 0",
		[]int{1, 0, 0}, []int{2, 0, 0}, []int{1, 1, 0}, []int{1, 2, 0}, []int{1, 3, 0}, []int{1, 4, 0}, []int{2, 3, 1}, []int{2, 3, 2}, []int{3, 3, 2})
	wantClocks(t, "a lock given back by another, who knows nothing of its holder", two+"1 Free 0; 2 Lock 0; 0 Free 0; 1 Lock 0",
		[]int{1, 0, 0}, []int{2, 0, 0}, []int{1, 1, 0}, []int{2, 1, 1}, []int{3, 0, 0}, []int{3, 2, 0})
	wantClocks(t, "a group", two+"1 Add 0; 2 Add 0; 1 Work; 2 Work; 0 Wait 0; 1 Add 0; 2 Wait 0",
		[]int{1, 0, 0}, []int{2, 0, 0}, []int{1, 1, 0}, []int{2, 0, 1}, []int{1, 2, 0}, []int{2, 0, 2}, []int{3, 1, 1}, []int{1, 3, 0}, []int{2, 3, 3})
	wantClocks(t, "over the third to the fourth", "0 Start 1 1; 0 Start 1 2; 0 Start 1 3; 1 Send 0; 2 Take 0; 2 Send 1; 3 Take 1",
		[]int{1, 0, 0, 0}, []int{2, 0, 0, 0}, []int{3, 0, 0, 0}, []int{1, 1, 0, 0}, []int{2, 1, 1, 0}, []int{2, 1, 2, 0}, []int{3, 1, 2, 1})
}

func TestMaxClock(t *testing.T) { // P14.2: the events' number times the runners', at the limit and above
	for _, w := range []struct {
		runners, events int
		ok              bool
	}{
		{1, api.MaxSteps, true}, {2, api.MaxSteps, true}, {26, api.MaxSteps, true}, {27, api.MaxSteps, false}, {32, 32768, true}, {32, 32769, false}, {32, 32767, true},
		{64, 16384, true}, {64, 16385, false}, {512, 2048, true}, {512, 2049, false}, {512, 511, true}, {512, api.MaxSteps, false}, {31, 33825, true}, {31, 33826, false},
	} {
		l := starts(1, w.runners-1)
		for len(l) < w.events {
			l = append(l, api.Event{Who: len(l) % w.runners, Op: api.OpWork})
		}
		got, e := Clocks(plain(), l)
		if !w.ok {
			if e != api.ErrLong || len(got) > 0 {
				t.Errorf("%d runners, %d events: %d clocks, error %d", w.runners, w.events, len(got), e)
			}
			continue
		}
		if e != api.OK || len(got) != w.events {
			t.Fatalf("%d runners, %d events: %d clocks, error %d", w.runners, w.events, len(got), e)
		}
		counts := make([]int, w.runners)
		for at, clock := range got {
			counts[l[at].Who]++
			if len(clock) != w.runners || clock[l[at].Who] != counts[l[at].Who] {
				t.Fatalf("%d runners, %d events: event %d has the clock %v", w.runners, w.events, at, clock)
			}
		}
	}
}

// chain is a list in which each of so many runners sends on what it took: all that one did is before what the next one does.
func chain(runners, room int) (api.System, []api.Event) {
	s := plain()
	s.Rooms = []int{room}
	l := starts(1, runners-1)
	for who := range runners {
		if who > 0 {
			l = append(l, api.Event{Who: who, Op: api.OpTake})
		}
		l = append(l, api.Event{Who: who, Op: api.OpSend})
	}
	return s, l
}

func TestLongChain(t *testing.T) { // clocks, order and way through all runners
	s, l := chain(api.MaxRunner, 1)
	first, last := api.MaxRunner-1, len(l)-1 // the first send, the last one
	clock := clocksOf(t, s, l)[last]
	right := slices.Repeat([]int{2}, api.MaxRunner)
	right[0] = api.MaxRunner
	if !slices.Equal(clock, right) {
		t.Errorf("the last clock is %v", clock)
	}
	if !beforeOf(t, s, l, first, last) || beforeOf(t, s, l, last, first) || !beforeOf(t, s, l, 0, last) {
		t.Errorf("the chain is torn")
	}
	row := wayOf(t, s, l, first, last)
	for at, e := range row {
		if e != first+at {
			t.Fatalf("the way is %v", row)
		}
	}
	if len(row) != 2*api.MaxRunner-1 {
		t.Errorf("the way has %d events", len(row))
	}
	// From the start of the last runner there is a shorter one.
	if row := wayOf(t, s, l, first-1, last); fmt.Sprint(row) != fmt.Sprint([]int{first - 1, last - 1, last}) {
		t.Errorf("the way from a start is %v", row)
	}
}
