package trace

import (
	"slices"
	"testing"

	"quern/api"
)

func wantEdges(t testing.TB, what string, s api.System, list, right string) {
	t.Helper()
	wantValid(t, what, s, events(list))
	if got := edgesOf(t, s, events(list)); !slices.Equal(got, edges(right)) {
		t.Errorf("%s: %s: edges %v, want %s", what, list, got, right)
	}
}

// two starts the runners 1 and 2. Behind it events of theirs have edges 0>1, and from 0 and 1 to their first ones.
const two = "0 Start 1 1; 0 Start 1 2; "

func TestKinds(t *testing.T) { // each kind alone, between runners that nothing else ties
	for _, w := range [][3]string{
		{"no event", "", ""},
		{"one event", "0 Work", ""},
		{"1: each to its next", "0 Work; 0 Set; 0 End; 0 Work", "0>1 1>2 2>3"},
		{"1: over others", two + "1 Work; 2 Work; 1 Work; 0 Work; 2 Work", "0>1 0>2 1>3 2>4 1>5 3>6"},
		{"2: to the first event", "0 Start 1 1; 1 Work; 1 Work", "0>1 1>2"},
		{"2: later", "0 Start 1 1; 0 Work; 0 Work; 1 Work", "0>1 1>2 0>3"},
		{"2: Value 0", "0 Start 1 0; 0 Start 1 1; 1 Work", "0>1 1>2"},
		{"2: one without an event", two + "2 Work", "0>1 1>2"},
		{"2: by another", "0 Start 1 1; 1 Start 0 2; 2 Work; 0 Start 0 3; 3 Work", "0>1 1>2 0>3 3>4"},
		{"3", two + "1 Send 0; 2 Take 0", "0>1 0>2 1>3 2>3"},
		{"3: the k-th to the k-th", two + "1 Send 1; 1 Send 1; 2 Take 1; 2 Take 1", "0>1 0>2 2>3 1>4 2>4 3>5 4>5"},
		{"3: by channels", two + "1 Send 1; 1 Send 2; 2 Take 2; 2 Take 1", "0>1 0>2 2>3 1>4 3>4 2>5 4>5"},
		{"3: Shut is not counted", two + "1 Send 2; 1 Send 2; 1 Close 2; 2 Take 2 0 shut; 2 Take 2; 2 Take 2", "0>1 0>2 2>3 3>4 1>5 4>5 2>6 5>6 3>7 6>7"},
		{"3: whatever the Values", two + "1 Send 1 7; 1 Send 1 8; 2 Take 1 8; 2 Take 1 7", "0>1 0>2 2>3 1>4 2>4 3>5 4>5"},
		{"4: room 1", two + "1 Send 0; 2 Take 0; 1 Send 0", "0>1 0>2 1>3 2>3 2>4 3>4"},
		{"4: room 2", two + "1 Send 1; 2 Take 1; 1 Send 1; 1 Send 1", "0>1 0>2 1>3 2>3 2>4 3>5 4>5"},
		{"4: room 3", two + "1 Send 2; 2 Take 2; 1 Send 2; 1 Send 2; 1 Send 2", "0>1 0>2 1>3 2>3 2>4 4>5 3>6 5>6"},
		{"4: the second one", two + "1 Send 1; 1 Send 1; 2 Take 1; 2 Take 1; 1 Send 1; 1 Send 1", "0>1 0>2 2>3 1>4 2>4 3>5 4>5 3>6 4>6 5>7 6>7"},
		{"4: a send that came ahead", two + "1 Send 0; 1 Send 0; 2 Take 0; 1 Send 0", "0>1 0>2 2>3 1>4 2>4 3>5"},
		{"4: a later one", two + "1 Send 0; 1 Send 0; 2 Take 0; 2 Take 0; 1 Send 0", "0>1 0>2 2>3 1>4 2>4 3>5 4>5 3>6 5>6"},
		{"4: Shut is not counted", two + "1 Close 0; 2 Take 0 0 shut; 1 Send 0; 1 Send 0", "0>1 0>2 1>3 2>3 2>4 4>5"},
		{"5", two + "1 Close 0; 2 Take 0 0 shut", "0>1 0>2 1>3 2>3"},
		{"5: to each, from the first", two + "1 Close 0; 1 Close 0; 2 Take 0 0 shut; 2 Work; 2 Take 0 0 shut", "0>1 0>2 2>3 1>4 2>4 4>5 2>6 5>6"},
		{"5: of its channel", two + "1 Close 1; 1 Close 0; 1 Close 2; 2 Take 0 0 shut", "0>1 0>2 2>3 3>4 1>5 3>5"},
		{"5: a close behind it", two + "1 Close 0; 2 Take 0 0 shut; 1 Close 0; 2 Take 0 0 shut", "0>1 0>2 1>3 2>3 2>4 2>5 3>5"},
		{"5: not of a take with a value", two + "1 Close 0; 0 Send 0; 2 Take 0", "0>1 0>2 1>3 1>4 3>4"},
		{"6", two + "1 Free 0; 2 Lock 0", "0>1 0>2 1>3 2>3"},
		{"6: to the next one alone", two + "1 Lock 0; 1 Free 0; 2 Lock 0; 2 Free 0; 0 Lock 0", "0>1 0>2 2>3 1>4 3>4 4>5 1>6 5>6"},
		{"6: several frees to one", two + "1 Free 0; 1 Free 0; 0 Free 0; 2 Lock 0", "0>1 0>2 2>3 1>4 1>5 2>5 3>5 4>5"},
		{"6: those of one lock", two + "1 Free 0; 0 Free 1; 2 Lock 1; 2 Lock 0", "0>1 0>2 1>3 1>4 3>4 2>5 4>5"},
		{"6: none ahead", two + "1 Lock 0; 2 Lock 1", "0>1 0>2 1>3"},
		{"6: given back by another", two + "1 Lock 0; 2 Free 0; 0 Lock 0", "0>1 0>2 1>3 1>4 3>4"},
		{"7", two + "1 Add 0; 2 Wait 0", "0>1 0>2 1>3 2>3"},
		{"7: each to each behind it", two + "1 Add 0; 2 Wait 0; 1 Add 0; 2 Wait 0; 0 Wait 0", "0>1 0>2 1>3 2>3 2>4 2>5 3>5 4>5 1>6 2>6 4>6"},
		{"7: by groups", two + "1 Add 0; 1 Add 1; 2 Wait 1; 2 Wait 0", "0>1 0>2 2>3 1>4 3>4 2>5 4>5"},
		{"7: none behind", two + "2 Wait 0; 1 Add 0", "0>1 1>2 0>3"},
		{"7: whatever the Value", two + "1 Add 0 3; 1 Add 0 -1; 2 Wait 0 9", "0>1 0>2 2>3 1>4 2>4 3>4"},
		{"cells tie nobody", two + "1 Write 0; 2 Read 0; 1 Write 0; 2 Write 0", "0>1 0>2 1>3 2>4 3>5"},
	} {
		wantEdges(t, w[0], plain(), w[1], w[2])
	}
}

func TestEdgesTogether(t *testing.T) { // each once, by rising To, of one To by rising From
	for _, w := range [][3]string{
		{"1 and 3", "0 Send 0; 0 Take 0", "0>1"},
		{"1 and 4", "0 Send 0; 0 Take 0; 0 Send 0", "0>1 1>2"},
		{"1 and 5", "0 Close 0; 0 Take 0 0 shut", "0>1"},
		{"1 and 6", "0 Free 0; 0 Lock 0", "0>1"},
		{"1 and 7", "0 Add 0; 0 Wait 0", "0>1"},
		{"1 and 7 of several", "0 Add 0; 0 Add 0; 0 Wait 0; 0 Wait 0", "0>1 0>2 1>2 0>3 1>3 2>3"},
		{"four to one", "0 Start 1 1; 0 Free 0; 0 Work; 0 Free 0; 0 Free 0; 1 Lock 0", "0>1 1>2 2>3 3>4 0>5 1>5 3>5 4>5"},
		{"the first one by a later kind", two + "1 Free 0; 2 Work; 2 Work; 2 Lock 0", "0>1 0>2 1>3 3>4 2>5 4>5"},
		{"the first one by an earlier kind", two + "2 Work; 1 Work; 1 Free 0; 2 Lock 0", "0>1 1>2 0>3 3>4 2>5 4>5"},
		{"channels of one runner", "0 Send 1; 0 Send 1; 0 Take 1; 0 Send 1; 0 Take 1; 0 Take 1; 0 Close 1; 0 Take 1 0 shut", "0>1 0>2 1>2 2>3 1>4 3>4 3>5 4>5 5>6 6>7"},
	} {
		wantEdges(t, w[0], plain(), w[1], w[2])
	}
}

func TestRooms(t *testing.T) { // kind 4, at rooms up to the greatest: as many sends as the room holds, a take, and a send
	for _, room := range []int{1, 2, 5, 100, api.MaxRoom} {
		s := plain()
		s.Rooms = []int{room}
		l := slices.Concat(starts(1, 2), times(room, api.Event{Who: 1, Op: api.OpSend}), events("2 Take 0; 1 Send 0"))
		last := len(l) - 1
		wantLast := func(s api.System, right ...api.Edge) {
			t.Helper()
			all := edgesOf(t, s, l)
			if got := all[len(all)-len(right):]; !slices.Equal(got, right) {
				t.Errorf("room %d: edges %v, want %v", s.Rooms[0], got, right)
			}
		}
		wantLast(s, api.Edge{From: last - 2, To: last}, api.Edge{From: last - 1, To: last})
		take := []api.Edge{{From: 1, To: last - 1}, {From: 2, To: last - 1}}
		if room < api.MaxRoom {
			s.Rooms = []int{room + 1}
			wantLast(s, append(take, api.Edge{From: last - 2, To: last})...)
		}
		if room > 1 { // then the send of that number came ahead of the take
			s.Rooms = []int{room - 1}
			wantLast(s, append(take, api.Edge{From: last - 2, To: last})...)
		}
	}
}

// waiting is a list of one runner with so many adds, so many waits and so many other events: each add has an edge to each wait, each event one to its next, of which one is both.
func waiting(adds, waits, others int) []api.Event {
	return slices.Concat(times(adds, api.Event{Op: api.OpAdd}), times(waits, api.Event{Op: api.OpWait}), times(others, api.Event{Op: api.OpWork}))
}

func TestMaxEdges(t *testing.T) { // P14.2: at the limit, and one more
	for _, w := range []struct {
		l     []api.Event
		edges int
	}{
		{waiting(255, 255, 0), 65533},
		{waiting(255, 255, 2), 65535},
		{waiting(255, 255, 3), 65536},
		{waiting(255, 255, 4), 65537},
		{waiting(255, 256, 0), 65789},
		{waiting(256, 256, 0), 66046},
		{waiting(1, 32767, 1), 65534},
		{waiting(1, 32767, 3), 65536},
		{waiting(1, 32767, 4), 65537},
		{waiting(1, 32768, 0), 65535},
		{waiting(1, 32769, 0), 65537},
		{waiting(32768, 1, 1), 65536},
		{waiting(32769, 1, 0), 65537},
		{waiting(20000, 20000, 0), 20000*20000 + 39998},
		{times(api.MaxSteps, api.Event{Op: api.OpWork}), api.MaxSteps - 1},
	} {
		got, e := Edges(plain(), w.l)
		if w.edges > api.MaxEdges {
			if e != api.ErrLong || len(got) > 0 {
				t.Errorf("%d edges: %d are told, error %d", w.edges, len(got), e)
			}
			continue
		}
		if e != api.OK || len(got) != w.edges {
			t.Errorf("%d edges: %d are told, error %d", w.edges, len(got), e)
		}
	}
}

func TestMaxEdgesWithoutGroups(t *testing.T) { // the other kinds come to more than MaxEdges too
	link := func(rounds, others int) []api.Event { // a send and a take a round, with two edges each from the second round on
		l := starts(1, 2)
		for range rounds {
			l = append(l, api.Event{Who: 1, Op: api.OpSend}, api.Event{Who: 2, Op: api.OpTake})
		}
		return append(l, times(others, api.Event{Op: api.OpWork})...)
	}
	// Starts: 1; the first send and take: 1 and 2; each round more: 4; each other event: 1.
	for _, w := range [][3]int{{16384, 0, 65536}, {16384, 1, 65537}, {16383, 4, 65536}, {16383, 5, 65537}, {19000, 0, 76000}} {
		got, e := Edges(plain(), link(w[0], w[1]))
		if w[2] > api.MaxEdges && (e != api.ErrLong || len(got) > 0) || w[2] <= api.MaxEdges && (e != api.OK || len(got) != w[2]) {
			t.Errorf("%d edges: %d are told, error %d", w[2], len(got), e)
		}
	}
}
