package sched

import (
	"slices"
	"sync"
	"testing"

	"quern/api"
)

// roomy tells a copy of a list with room behind its end, and a function that tells whether list and room are as they were.
func roomy[T comparable](list []T, filler T) ([]T, func() bool) {
	whole := append(slices.Clone(list), filler, filler, filler, filler)
	before := slices.Clone(whole)
	return whole[:len(list)], func() bool { return slices.Equal(whole, before) }
}

// roomySystem tells a copy of a system whose lists have room behind their ends, and a function that tells whether all is as it was.
func roomySystem(s api.System) (api.System, func() bool) {
	var checks []func() bool
	add := func(still func() bool) { checks = append(checks, still) }
	progs := make([][]api.Inst, 0, len(s.Progs)+2)
	for _, p := range s.Progs {
		list, still := roomy(p, api.Inst{Op: 77, A: 78, B: 79, C: 80})
		progs = append(progs, list)
		add(still)
	}
	behind, still := roomy(prog("Work 1; Work 2"), api.Inst{Op: 81})
	progs[:len(s.Progs)+1][len(s.Progs)] = behind
	add(still)
	rooms, still := roomy(s.Rooms, 91)
	add(still)
	was := slices.Clone(progs[:cap(progs)])
	s.Progs, s.Rooms = progs, rooms
	return s, func() bool {
		for i, p := range progs[:cap(progs)] {
			if len(p) != len(was[i]) || cap(p) != cap(was[i]) || len(p) > 0 && &p[0] != &was[i][0] {
				return false
			}
		}
		return !slices.ContainsFunc(checks, func(still func() bool) bool { return !still() })
	}
}

// spoil changes a list, and what lies behind its end.
func spoil(list []int) {
	list = list[:cap(list)]
	for i := range list {
		list[i] = -list[i] - 1000 - i
	}
}

func spoilRun(r api.Run) {
	spoil(r.Cells)
	events := r.Events[:cap(r.Events)]
	for i := range events {
		events[i] = api.Event{Who: -1, Op: -1, A: -1, Value: -1, Shut: true}
	}
}

func cloneRun(r api.Run) api.Run {
	r.Events, r.Cells = slices.Clone(r.Events), slices.Clone(r.Cells)
	return r
}

// several are systems with the picks of a run, one at least for each end.
func several() []told {
	return []told{
		{what: "done", s: shared("Start 1; Set 0 7; Send 0 0; Write 0 0; Close 0", "Take 0 1 3; Write 1 1; Jump 0"), picks: []int{0, 1, 0, -1, 3, 1}},
		{what: "stuck", s: shared("Start 1; Set 0 2; Write 0 0; Lock 0; Lock 0", "Read 0 3; Work 2 3"), picks: []int{0, 1, 1}},
		{what: "fault", s: shared("Start 1; Start 1; Close 2; Set 2 5; Write 2 2; Send 2 2", "Work 1; Work 2"), picks: []int{0, 0, 2, 2, 1}},
		{what: "steps", s: shared("Start 1; Set 0 1; Sum 1 0; Write 1 1; Jump 0 0 2", "Read 2 3; Jump"), picks: []int{0, 1, 0, 1, 1, 1, 0}},
		{what: "a pool", s: pool(3, 2, 2), picks: []int{0, 5, 6, 7, -8, 4, 3, 2}},
		{what: "nothing", s: bare("")},
	}
}

func TestWhatIsHandedInAndOut(t *testing.T) { // P4: systems and picks stay as they were; answers share memory with nothing, spare room too
	for _, w := range several() {
		s, stillSystem := roomySystem(w.s)
		picks, stillPicks := roomy(w.picks, 93)
		first, second := played(t, w.what, s, picks...), played(t, w.what, s, picks...)
		before := cloneRun(second)
		wantSame(t, w.what, first, before)
		ready, e := Ready(s, picks)
		again, e2 := Ready(s, picks)
		wasReady := slices.Clone(ready)
		spoilRun(first)
		spoil(ready)
		if e != api.OK || e2 != api.OK || !slices.Equal(again, wasReady) {
			t.Errorf("%s: Ready was %v, is %v", w.what, wasReady, again)
		}
		if e := Valid(s); e != api.OK || !stillSystem() || !stillPicks() {
			t.Errorf("%s: error %d, or what was handed in has changed", w.what, e)
		}
		wantSame(t, w.what+", asked again", second, before)
		wantSame(t, w.what+", asked once more", played(t, w.what, s, picks...), before)
		wantReady(t, w.what, s, picks, wasReady...)
	}
}

func TestListsOfOneAnswer(t *testing.T) { // P4: events and cells of one run are two lists
	for _, w := range several() {
		r := played(t, w.what, w.s, w.picks...)
		before := cloneRun(r)
		spoil(r.Cells)
		if !slices.Equal(r.Events, before.Events) {
			t.Errorf("%s: the cells share memory with the events", w.what)
		}
	}
}

func TestNothingIsKept(t *testing.T) { // P4, P5: what is changed behind a call leaves answers as they are, and is seen by the next call
	for _, w := range several() {
		s, _ := roomySystem(w.s)
		picks, _ := roomy(w.picks, 93)
		r := played(t, w.what, s, picks...)
		before := cloneRun(r)
		ready, _ := Ready(s, picks)
		wasReady := slices.Clone(ready)
		for i, p := range s.Progs {
			clear(p[:cap(p)])
			s.Progs[i] = nil
		}
		spoil(s.Rooms)
		spoil(picks)
		wantSame(t, w.what, r, before)
		if !slices.Equal(ready, wasReady) {
			t.Errorf("%s: Ready was %v, is %v", w.what, wasReady, ready)
		}
		for i, p := range w.s.Progs {
			s.Progs[i] = slices.Clone(p)
		}
		copy(s.Rooms, w.s.Rooms)
		copy(picks, w.picks)
		wantSame(t, w.what+", put back", played(t, w.what, s, picks...), before)
		if len(s.Progs[0]) > 0 {
			s.Progs[0][0] = api.Inst{}
			if r, e := Play(s, picks); e != api.ErrSystem || !isZero(r) {
				t.Errorf("%s: error %d of a wrong instruction", w.what, e)
			}
			s.Progs[0][0] = api.Inst{Op: api.OpEnd}
			told{w.what, s, picks, api.EndDone, 0, "0 End 0 0", 1, nil}.want(t)
		}
	}
}

func TestOneMemoryForAll(t *testing.T) { // P4: programs may be one list, or lie one over the other; rooms and picks may be one
	whole := prog("Start 1; Send 0 0; Take 0 1 3; Work 5 1; Work 6")
	s := api.System{Progs: [][]api.Inst{whole, whole[1:], whole[:0], whole}, Rooms: []int{1, 2, 1}}
	apart := s
	apart.Progs = [][]api.Inst{slices.Clone(whole), slices.Clone(whole[1:]), nil, slices.Clone(whole)}
	was := slices.Clone(whole)
	wantSame(t, "one memory", played(t, "one memory", s, s.Rooms...), played(t, "apart", apart, 1, 2, 1))
	if !slices.Equal(whole, was) || !slices.Equal(s.Rooms, []int{1, 2, 1}) {
		t.Errorf("what was handed in has changed")
	}
}

func TestNilAndEmpty(t *testing.T) { // P3
	nils := api.System{Progs: [][]api.Inst{prog("Start 1; Work 2"), nil}}
	empties := api.System{Progs: [][]api.Inst{prog("Start 1; Work 2"), {}}, Rooms: []int{}}
	wantSame(t, "nil and empty", played(t, "nil", nils), played(t, "empty", empties, []int{}...))
	a, _ := Ready(nils, nil)
	b, _ := Ready(empties, []int{})
	if !slices.Equal(a, b) || !slices.Equal(a, []int{0}) {
		t.Errorf("Ready: %v, %v", a, b)
	}
}

func TestSideBySide(t *testing.T) { // P5, SC5: runs at the same time know nothing of one another
	list := several()
	runs := make([]api.Run, 8*len(list))
	ready := make([][]int, len(runs))
	var all sync.WaitGroup
	for i := range runs {
		all.Go(func() {
			w := list[i%len(list)]
			runs[i], _ = Play(w.s, w.picks)
			ready[i], _ = Ready(w.s, w.picks)
		})
	}
	all.Wait()
	for i, r := range runs {
		w := list[i%len(list)]
		wantSame(t, w.what, r, played(t, w.what, w.s, w.picks...))
		wantReady(t, w.what, w.s, w.picks, ready[i]...)
	}
}
