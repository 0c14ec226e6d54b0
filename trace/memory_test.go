package trace

import (
	"fmt"
	"slices"
	"sync"
	"testing"

	"quern/api"
)

// roomy tells a copy of a list with room behind its end, and a function that tells whether list and room are as they were.
func roomy[T comparable](list []T, filler T) ([]T, func() bool) {
	whole := append(slices.Clone(list), filler, filler, filler, filler)
	before := slices.Clone(whole)
	return whole[:len(list)], func() bool { return slices.Equal(whole, before) }
}

// roomySystem tells a copy of a system whose lists have room behind their ends, and a function that tells whether all is as it was.
func roomySystem(s api.System) (api.System, func() bool) {
	var checks []func() bool
	progs := make([][]api.Inst, 0, len(s.Progs)+1)
	for _, p := range append(slices.Clone(s.Progs), []api.Inst{{Op: api.OpWork}}) {
		list, still := roomy(p, api.Inst{Op: 77, A: 78, B: 79, C: 80})
		progs = append(progs, list)
		checks = append(checks, still)
	}
	rooms, still := roomy(s.Rooms, 91)
	checks = append(checks, still)
	was := slices.Clone(progs)
	checks = append(checks, func() bool {
		return slices.EqualFunc(progs, was, func(a, b []api.Inst) bool {
			return len(a) == len(b) && cap(a) == cap(b) && &a[:1][0] == &b[:1][0]
		})
	})
	s.Progs, s.Rooms = progs[:len(s.Progs)], rooms
	return s, func() bool {
		return !slices.ContainsFunc(checks, func(still func() bool) bool { return !still() })
	}
}

// answers are those of all calls on one list.
type answers struct {
	wrong, runners int
	edges          []api.Edge
	clocks         [][]int
	before         []bool
	ways           [][]int
	races          []api.Race
	held, guards   [][]int
	errors         []api.Errno
}

// ask asks all calls, of some events and of all cells, and one past what there is.
func ask(s api.System, l []api.Event) answers {
	var a answers
	var e api.Errno
	note := func() { a.errors = append(a.errors, e) }
	a.wrong, e = Valid(s, l)
	note()
	a.runners, e = Runners(s, l)
	note()
	a.edges, e = Edges(s, l)
	note()
	a.clocks, e = Clocks(s, l)
	note()
	a.races, e = Races(s, l, 5)
	note()
	for i := -1; i <= len(l); i++ {
		j := (i*7 + 5) % (len(l) + 1)
		is, e1 := Before(s, l, i, j)
		row, e2 := Way(s, l, i, j)
		held, e3 := Held(s, l, i)
		a.before, a.ways, a.held = append(a.before, is), append(a.ways, row), append(a.held, held)
		a.errors = append(a.errors, e1, e2, e3)
	}
	for cell := -1; cell <= s.Cells; cell++ {
		list, e1 := Guards(s, l, cell)
		a.guards, a.errors = append(a.guards, list), append(a.errors, e1)
	}
	return a
}

// text tells all answers, nil and empty lists alike.
func (a answers) text() string { return fmt.Sprint(a) }

// spoil changes all lists of the answers, and what lies behind their ends.
func (a answers) spoil() {
	for _, lists := range [][][]int{a.clocks, a.ways, a.held, a.guards} {
		for i := range lists {
			list := lists[i][:cap(lists[i])]
			for at := range list {
				list[at] = -list[at] - 1000
			}
		}
	}
	for i, list := 0, a.edges[:cap(a.edges)]; i < len(list); i++ {
		list[i] = api.Edge{From: -5, To: -6}
	}
	for i, list := 0, a.races[:cap(a.races)]; i < len(list); i++ {
		list[i] = api.Race{First: -7, Second: -8}
	}
	clear(a.clocks[:cap(a.clocks)])
}

// trial is a system and a list.
type trial struct {
	what string
	s    api.System
	l    []api.Event
}

// several are lists of all kinds, such as may be traces and others.
func several(t testing.TB) []trial {
	c := chance(81)
	pooled := pool(3, 2, 1, rightWork)
	list := []trial{
		{"a frame", plain(), events(frame)},
		{"nothing", plain(), nil},
		{"one event", plain(), events("0 Work")},
		{"locks", plain(), events(two + "1 Lock 0; 1 Lock 1; 1 Write 0; 2 Write 1; 0 Read 1; 1 Free 0; 2 Lock 0; 2 Write 0; 0 Write 1; 2 Write 1")},
		{"groups", plain(), events(two + "1 Add 0; 2 Add 0; 0 Wait 0; 1 Wait 0; 0 Add 0; 2 Wait 0; 1 Write 0; 2 Write 0; 0 Read 0")},
		{"no trace", plain(), events("0 Work; 0 Send 0; 0 Take 0; 0 Take 0; 0 Work")},
		{"a system that may not be", broken(), events("0 Work")},
		{"a pool", pooled, played(t, pooled, c.picks(100)).Events},
	}
	for range 5 {
		s := runnable(&c)
		list = append(list, trial{"a run", s, played(t, s, c.picks(60)).Events})
	}
	for i := range list {
		list[i].l = list[i].l[:min(80, len(list[i].l))]
	}
	return list
}

func TestWhatIsHandedInAndOut(t *testing.T) { // P4: systems and events stay as they were; answers share memory with nothing, spare room too
	for _, w := range several(t) {
		s, stillSystem := roomySystem(w.s)
		l, stillList := roomy(w.l, api.Event{Who: 3, Op: 44, A: 55, Value: 66, Shut: true})
		first, second := ask(s, l), ask(s, l)
		right := second.text()
		if first.text() != right {
			t.Errorf("%s: asked twice, told otherwise", w.what)
		}
		first.spoil()
		if second.text() != right {
			t.Errorf("%s: two answers share memory", w.what)
		}
		if !stillSystem() || !stillList() {
			t.Errorf("%s: what was handed in has changed", w.what)
		}
		if ask(s, l).text() != right || ask(w.s, slices.Clip(w.l)).text() != right {
			t.Errorf("%s: asked again, told otherwise", w.what)
		}
	}
}

func TestClocksAreApart(t *testing.T) { // P4: no two lists of one answer share memory
	for _, w := range several(t) {
		clocks, e := Clocks(w.s, w.l)
		if e != api.OK {
			continue
		}
		for i := range clocks {
			before := fmt.Sprint(clocks[:i], clocks[i+1:])
			for at := range clocks[i][:cap(clocks[i])] {
				clocks[i][:cap(clocks[i])][at] += 77
			}
			if fmt.Sprint(clocks[:i], clocks[i+1:]) != before {
				t.Fatalf("%s: the clock of event %d shares memory with another", w.what, i)
			}
		}
	}
}

func TestNothingIsKept(t *testing.T) { // P4, P5: what is changed behind a call leaves answers as they are, and is seen by the next call
	for _, w := range several(t) {
		s, _ := roomySystem(w.s)
		l, _ := roomy(w.l, api.Event{Op: api.OpWork})
		got := ask(s, l)
		right := got.text()
		whole := slices.Clone(l)
		clear(l[:cap(l)])
		for i := range s.Rooms {
			s.Rooms[i] = -1
		}
		for i := range s.Progs {
			s.Progs[i] = nil
		}
		if got.text() != right {
			t.Errorf("%s: an answer has changed", w.what)
		}
		if len(s.Rooms) > 0 {
			wantRefused(t, w.what, s, l, 0, api.ErrSystem)
		}
		copy(l, whole)
		copy(s.Rooms, w.s.Rooms)
		copy(s.Progs, w.s.Progs)
		if ask(s, l).text() != right {
			t.Errorf("%s: put back, told otherwise", w.what)
		}
	}
}

func TestNilAndEmpty(t *testing.T) { // P3
	nils := api.System{Progs: [][]api.Inst{nil}}
	empties := api.System{Progs: [][]api.Inst{{}}, Rooms: []int{}}
	for _, l := range [][]api.Event{nil, {}, events("0 Work; 0 Start; 0 End")} {
		if a, b := ask(nils, l).text(), ask(empties, l).text(); a != b {
			t.Errorf("%s, %s", a, b)
		}
	}
	if a, b := ask(nils, nil).text(), ask(nils, []api.Event{}).text(); a != b {
		t.Errorf("%s, %s", a, b)
	}
}

func TestProgramsAreNotAsked(t *testing.T) { // a list need not come of the system's programs: these are counted, not read
	for _, w := range several(t) {
		s := w.s
		s.Progs = make([][]api.Inst, len(s.Progs))
		if a, b := ask(w.s, w.l).text(), ask(s, w.l).text(); a != b {
			t.Errorf("%s: %s, %s", w.what, a, b)
		}
	}
}

func TestSideBySide(t *testing.T) { // P5: calls at the same time know nothing of one another
	list := several(t)
	texts := make([]string, 4*len(list))
	var all sync.WaitGroup
	for i := range texts {
		all.Go(func() {
			w := list[i%len(list)]
			texts[i] = ask(w.s, w.l).text()
		})
	}
	all.Wait()
	for i, got := range texts {
		if w := list[i%len(list)]; got != ask(w.s, w.l).text() {
			t.Errorf("%s: told otherwise", w.what)
		}
	}
}
