package trace

import (
	"slices"
	"testing"

	"quern/api"
	"quern/sched"
)

func TestExamples(t *testing.T) { // the chapter's
	first := events("0 Write 0; 0 Start 1 1; 1 Read 0; 0 Write 0")
	if got := racesOf(t, plain(), first, 10); !slices.Equal(got, races("2-3")) {
		t.Errorf("example 1: races %v", got)
	}
	if !beforeOf(t, plain(), first, 0, 2) || beforeOf(t, plain(), first, 2, 3) {
		t.Errorf("example 1: another order")
	}
	s := plain()
	s.Rooms = []int{1}
	second := events("0 Start 1 1; 0 Send 0; 1 Take 0; 0 Send 0")
	if !beforeOf(t, s, second, 2, 3) || !slices.Equal(wayOf(t, s, second, 2, 3), []int{2, 3}) {
		t.Errorf("example 2: the take is not before the second send")
	}
	s.Rooms = []int{2}
	if beforeOf(t, s, second, 2, 3) {
		t.Errorf("example 2: with a room of 2 the take is before the second send")
	}
	wantRefused(t, "example 3", plain(), events("0 Take 0"), 0, api.ErrTrace)
}

func TestARunByHand(t *testing.T) { // a run of chapter 13's first example, all of it
	s := api.System{Progs: [][]api.Inst{
		{{Op: api.OpStart, A: 1}, {Op: api.OpSet, B: 7}, {Op: api.OpSend}, {Op: api.OpClose}},
		{{Op: api.OpTake, B: 1, C: 2}, {Op: api.OpJump}},
	}, Rooms: []int{1}}
	r, _ := sched.Play(s, nil)
	l := r.Events
	if show(l) != "0 Start 1 1; 0 Set 0 0; 0 Send 0 7; 0 Close 0 0; 1 Take 0 7; 1 Jump 0 0; 1 Take 0 7 shut" {
		t.Fatalf("another run: %s", show(l))
	}
	if got := edgesOf(t, s, l); !slices.Equal(got, edges("0>1 1>2 2>3 0>4 2>4 4>5 3>6 5>6")) {
		t.Errorf("edges %v", got)
	}
	right := [][]int{{1, 0}, {2, 0}, {3, 0}, {4, 0}, {3, 1}, {3, 2}, {4, 3}}
	if got := clocksOf(t, s, l); !slices.EqualFunc(got, right, slices.Equal) {
		t.Errorf("clocks %v", got)
	}
	if beforeOf(t, s, l, 3, 4) || beforeOf(t, s, l, 3, 5) || !beforeOf(t, s, l, 3, 6) {
		t.Errorf("the close is before the last take alone")
	}
	for j, row := range [][]int{nil, {0, 1}, {0, 1, 2}, {0, 1, 2, 3}, {0, 4}, {0, 4, 5}, {0, 4, 5, 6}} {
		if got := wayOf(t, s, l, 0, j); !slices.Equal(got, row) {
			t.Errorf("the way to %d is %v", j, got)
		}
	}
}

func TestEventOfAFault(t *testing.T) { // the last event of a run that ends with a fault is one as others are
	for text, wanted := range map[string]string{
		"Close 0; Send 0":        "0>1",
		"Close 0; Close 0":       "0>1",
		"Free 0":                 "",
		"Lock 0; Free 0; Free 0": "0>1 1>2",
		"Add 0 -1":               "",
	} {
		s := system(text)
		r, e := sched.Play(s, nil)
		if e != api.OK || r.End != api.EndFault {
			t.Fatalf("%s: end %d, error %d", text, r.End, e)
		}
		if got := edgesOf(t, s, r.Events); !slices.Equal(got, edges(wanted)) {
			t.Errorf("%s: edges %v", text, got)
		}
	}
}
