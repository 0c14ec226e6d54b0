package trace

import (
	"fmt"
	"slices"
	"strconv"
	"strings"
	"testing"

	"quern/api"
	"quern/sched"
)

// system reads programs such as "Start 1; Set 0 7"; what they share is that of plain, in which instructions are those of three channels, two groups, three locks, three cells.
func system(progs ...string) api.System {
	s := plain()
	s.Progs = nil
	for _, text := range progs {
		var list []api.Inst
		for _, part := range strings.Split(text, ";") {
			words := strings.Fields(part)
			if len(words) == 0 {
				continue
			}
			i := api.Inst{Op: slices.Index(names, words[0])}
			for at, field := range []*int{&i.A, &i.B, &i.C} {
				if at+1 < len(words) {
					*field, _ = strconv.Atoi(words[at+1])
				}
			}
			list = append(list, i)
		}
		s.Progs = append(s.Progs, list)
	}
	return s
}

// played plays a system that may be.
func played(t testing.TB, s api.System, picks []int) api.Run {
	t.Helper()
	r, e := sched.Play(s, picks)
	return sure(t, "Play", r, e)
}

// runnable tells a system by chance of a few short programs, that start one another, send, take, lock, wait, read and write.
func runnable(c *chance) api.System {
	lines := []string{"Send 0", "Send 1", "Take 0 1 9", "Take 1 1 9", "Take 0 1 9", "Close 1", "Lock 0", "Lock 0; Write 0 1; Free 0", "Lock 1; Read 1 1; Free 1",
		"Free 0", "Add 0 1; Add 0 -1", "Add 1 1", "Wait 0", "Wait 1", "Read 0 1", "Write 0 0", "Write 2 2", "Set 2 1", "Set 0 2", "Start 1", "Start 2", "Work 3", "End", "Write 0 0"}
	texts := make([]string, 3)
	for at := range texts {
		parts := []string{}
		if at == 0 {
			parts = append(parts, "Start 1", "Start 2")
		}
		for len(parts) < 9 {
			line := lines[c.below(len(lines))]
			seldom := line == "End" || line == "Free 0" || line == "Close 1" || line == "Lock 0" || line == "Add 1 1" // most runs end with these
			if at > 0 && strings.HasPrefix(line, "Start") || seldom && c.below(3) > 0 {
				continue
			}
			parts = append(parts, line)
		}
		texts[at] = strings.Join(parts, "; ")
	}
	return system(texts...)
}

func TestRunsAgainstModel(t *testing.T) { // P14.1 to P14.5 over runs that sched.Play tells: all of them are traces, whatever their ends
	c := chance(51)
	var seen tally
	ends := map[int]int{}
	for range 400 {
		s := runnable(&c)
		r := played(t, s, c.picks(60))
		ends[r.End]++
		wantValid(t, "a run", s, r.Events)
		if n := runnersOf(t, s, r.Events); n != r.Runners {
			t.Errorf("%d runners, want %d", n, r.Runners)
		}
		wantModel(t, s, r.Events[:min(40, len(r.Events))], &seen)
	}
	if ends[api.EndDone] < 10 || ends[api.EndStuck] < 10 || ends[api.EndFault] < 10 || seen.races < 500 || seen.guards < 20 || slices.Min(seen.kinds[1:]) < 20 {
		t.Errorf("too little of something: ends %v, %v", ends, seen)
	}
}

func TestLongRuns(t *testing.T) { // what sched.Play tells of runs without an end, and of too many runners
	for _, w := range []struct {
		s       api.System
		end     int
		runners int
	}{
		{system("Start 1; Write 0 0; Jump 0 0 1", "Read 0 1; Jump 0"), api.EndSteps, 2},
		{system("Start 1; Send 0; Jump 0 0 1", "Take 0 1 0; Jump 0"), api.EndSteps, 2},
		{system("Start 1; Jump 0", "Work 1"), api.EndFault, api.MaxRunner},
		{system("Start 0; Jump 0"), api.EndFault, api.MaxRunner},
	} {
		c := chance(77)
		r := played(t, w.s, c.picks(api.MaxSteps))
		if r.End != w.end || runnersOf(t, w.s, r.Events) != w.runners {
			t.Errorf("end %d, %d runners", r.End, r.Runners)
		}
	}
}

// wantHolds holds what follows of the promises, over one list.
func wantHolds(t *testing.T, s api.System, l []api.Event) {
	t.Helper()
	clocks := clocksOf(t, s, l)
	order := make([][]bool, len(l))
	for i := range l {
		order[i] = make([]bool, len(l))
		for j := range l {
			is := beforeOf(t, s, l, i, j)
			order[i][j] = is
			if is && i >= j {
				t.Errorf("%d is before %d", i, j)
			}
			if who := l[i].Who; is != (i != j && clocks[j][who] >= clocks[i][who]) {
				t.Errorf("%d before %d: %v, but the clocks are %v and %v", i, j, is, clocks[i], clocks[j])
			}
		}
	}
	for i := range l {
		for j := range i {
			for k := range j {
				if order[k][j] && order[j][i] && !order[k][i] {
					t.Errorf("%d is before %d, that before %d", k, j, i)
				}
			}
		}
	}
	wantGuarded(t, s, l)
	n := len(l) * 2 / 3
	wantBeginning(t, s, l[:n], clocks[:n], edgesOf(t, s, l))
}

// wantGuarded holds that a cell with a guard has no race.
func wantGuarded(t *testing.T, s api.System, l []api.Event) {
	t.Helper()
	for _, r := range racesOf(t, s, l, api.MaxRaces) {
		if list := guardsOf(t, s, l, l[r.First].A); len(list) > 0 {
			t.Errorf("%v races, guarded by %v, in %s", r, list, show(l))
		}
	}
}

// wantBeginning holds that a beginning has the clocks and the edges that the whole list has there.
func wantBeginning(t *testing.T, s api.System, l []api.Event, clocks [][]int, edges []api.Edge) {
	t.Helper()
	for at, clock := range clocksOf(t, s, l) {
		if whole := clocks[at]; !slices.Equal(clock, whole[:len(clock)]) || slices.ContainsFunc(whole[len(clock):], func(n int) bool { return n > 0 }) {
			t.Errorf("of a beginning event %d has the clock %v, of all %v", at, clock, whole)
		}
	}
	edges = slices.DeleteFunc(edges, func(k api.Edge) bool { return k.To >= len(l) })
	if got := edgesOf(t, s, l); !slices.Equal(got, edges) {
		t.Errorf("of a beginning the edges are %v, want %v", got, edges)
	}
	for n := range 20 {
		if len(l) > 0 {
			i, j := n*7%len(l), len(l)-1-n*5%len(l)
			who := l[i].Who
			if is := beforeOf(t, s, l, i, j); is != (i != j && clocks[j][who] >= clocks[i][who]) {
				t.Errorf("of a beginning Before(%d, %d) is %v", i, j, is)
			}
		}
	}
}

func TestWhatFollows(t *testing.T) { // P14.6, over runs and over lists by chance
	c := chance(61)
	for range 150 {
		s := runnable(&c)
		r := played(t, s, c.picks(60))
		wantHolds(t, s, r.Events[:min(60, len(r.Events))])
		other := systemByChance(&c)
		wantHolds(t, other, listByChance(&c, other, 30))
	}
}

func TestGuardsHold(t *testing.T) { // P14.6: many runners that lock, many cells, by all kinds of picks
	c := chance(67)
	guarded := 0
	for range 300 {
		s := system("Start 1; Start 2; Start 1; Start 2; Lock 0; Write 0 0; Free 0",
			"Lock 0; Read 0 1; Write 0 1; Free 0; Set 0 1; Lock 1; Write 0 1; Free 1; Set 0 2; Write 0 1",
			"Lock 1; Lock 0; Write 0 1; Free 0; Set 0 1; Read 0 1; Free 1; Set 0 2; Read 0 1")
		r := played(t, s, c.picks(80))
		wantGuarded(t, s, r.Events)
		if a, b := guardsOf(t, s, r.Events, 0), guardsOf(t, s, r.Events, 1); r.End == api.EndDone && slices.Equal(a, []int{0}) && slices.Equal(b, []int{1}) {
			guarded++
		}
		if len(racesOf(t, s, r.Events, 1)) == 0 {
			t.Errorf("nobody races for cell 2, which no lock guards")
		}
	}
	if guarded < 200 {
		t.Errorf("%d runs with both cells guarded", guarded)
	}
}

func TestOneRunner(t *testing.T) { // P14.6: a list of one runner has no race
	c := chance(71)
	for range 300 {
		s := systemByChance(&c)
		var l []api.Event
		for range 60 {
			if e := eventByChance(&c, 1); e.Op != api.OpStart && modelFits(s, l, e) {
				l = append(l, e)
			}
		}
		if list := racesOf(t, s, l, api.MaxRaces); len(list) > 0 {
			t.Errorf("races %v of %s", list, show(l))
		}
		for j := range l {
			if j > 0 && !beforeOf(t, s, l, j-1, j) {
				t.Errorf("%d is not before its next", j-1)
			}
		}
	}
}

// pool tells the pool's system of chapter 15, for n jobs; work is what a worker does with one.
func pool(n, workers, queue int, work string) api.System {
	b := min(workers+queue, api.MaxBuffers)
	s := system(
		fmt.Sprintf("Set 0 0; Set 1 %d; Set 2 1; Less 0 1 5; Jump 0 0 9; Add 0 1; Start 1; Sum 0 2; Jump 0 0 3; Start 2; Start 3; Take 1 3 14; Work 1 3; Jump 0 0 11; End", workers),
		"Take 0 3 6; "+work+"; Jump 0 0 0; Add 0 -1; End",
		fmt.Sprintf("Set 0 0; Set 1 %d; Set 2 1; Less 0 1 5; Jump 0 0 8; Send 2 0; Sum 0 2; Jump 0 0 3; Set 0 0; Set 1 %d; Less 0 1 12; Jump 0 0 17; Take 2 3 17; Write 3 0; Send 0 3; Sum 0 2; Jump 0 0 10; Close 0; End", b, n),
		"Wait 0; Close 1; End")
	s.Rooms, s.Groups, s.Locks, s.Cells = []int{queue, queue, b}, 1, 0, b
	return s
}

const rightWork = "Read 3 4; Work 0 4; Send 2 3; Send 1 4"

func TestPool(t *testing.T) { // G2: no two accesses of the pool's system race, whatever the picks
	c := chance(15)
	for _, n := range []int{0, 1, 2, 7, 20} {
		for _, workers := range []int{1, 2, 3, 8} {
			for _, queue := range []int{1, 2, 5, 100} {
				s := pool(n, workers, queue, rightWork)
				for _, picks := range [][]int{nil, slices.Repeat([]int{-1}, 900), slices.Repeat([]int{0, 1, 2}, 300), c.picks(300), c.picks(900)} {
					l := played(t, s, picks).Events
					wantValid(t, "a pool", s, l)
					if list := racesOf(t, s, l, api.MaxRaces); len(list) > 0 {
						t.Errorf("%d jobs, %d workers, a queue of %d: races %v", n, workers, queue, list)
					}
				}
			}
		}
	}
	for _, w := range [][3]int{{api.MaxJobs, 3, 64}, {50, api.MaxWorkers, api.MaxRoom}, {api.MaxJobs, api.MaxWorkers, 1}} {
		s := pool(w[0], w[1], w[2], rightWork)
		if list := racesOf(t, s, played(t, s, c.picks(20000)).Events, api.MaxRaces); len(list) > 0 {
			t.Errorf("%v: races %v", w, list)
		}
	}
}

func TestWrongPool(t *testing.T) { // a worker that gives the buffer back ahead of reading it races with the feeder
	c := chance(16)
	found := 0
	s := pool(12, 2, 1, "Send 2 3; Read 3 4; Work 0 4; Send 1 4")
	for range 50 {
		l := played(t, s, c.picks(400)).Events
		for _, r := range racesOf(t, s, l, api.MaxRaces) {
			found++
			if ops := []int{l[r.First].Op, l[r.Second].Op}; !slices.Contains(ops, api.OpWrite) || !slices.Contains(ops, api.OpRead) {
				t.Errorf("%v: %v", r, ops)
			}
		}
	}
	if found < 50 {
		t.Errorf("%d races", found)
	}
}
