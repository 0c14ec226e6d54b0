package pool

import (
	"bytes"
	"fmt"
	"slices"
	"testing"

	"quern/api"
	"quern/sched"
	"quern/trace"
)

// wantOneAnswer holds PO5 on one list of picks.
func wantOneAnswer(t *testing.T, what string, plan api.Tree, data []byte, p api.Pool, picks []int, right []byte) {
	t.Helper()
	got, e := Play(plan, data, p, picks)
	leaves := len(got.Order)
	steps, _ := Bound(leaves, p)
	if e != api.OK || got.End != api.EndDone || !bytes.Equal(got.Digest, right) || got.Steps != steps || got.Most > p.Queue || got.Most < 1 {
		t.Errorf("%s: %v, error %d, want digest %x", what, got, e, right)
	}
	slices.Sort(got.Order)
	if want := max(1, (len(data)+int(plan.Leaf)-1)/int(plan.Leaf)); !slices.Equal(got.Order, numbers(want)) {
		t.Errorf("%s: leaves %v, want each of %d once", what, got.Order, want)
	}
}

// wantApart holds PO6 on one list of picks: no fault, never stuck, no race, and no channel beyond its room.
func wantApart(t *testing.T, what string, n int, p api.Pool, picks []int) {
	t.Helper()
	s := systemOf(t, n, p)
	run, e := sched.Play(s, picks)
	if e != api.OK || run.End != api.EndDone || run.Fault != api.OK {
		t.Errorf("%s: end %d, fault %d, error %d", what, run.End, run.Fault, e)
	}
	if list, e := trace.Races(s, run.Events, 5); e != api.OK || len(list) > 0 {
		t.Errorf("%s: races %v, error %d", what, list, e)
	}
	var held [3]int
	for _, e := range run.Events {
		switch {
		case e.Op == api.OpSend:
			held[e.A]++
		case e.Op == api.OpTake && !e.Shut:
			held[e.A]--
		default:
			continue
		}
		if held[e.A] > s.Rooms[e.A] {
			t.Errorf("%s: channel %d holds %d", what, e.A, held[e.A])
		}
	}
	if held[0] != 0 || held[1] != 0 || held[2] != rightBuffers(p) {
		t.Errorf("%s: at the end the channels hold %v: a job or a result is left, or a buffer is lost", what, held)
	}
}

func TestOneAnswer(t *testing.T) { // PO5, G1
	c := chance(11)
	for i, plan := range trees() {
		for _, n := range []int{0, 1, 2, 5, 14, 33} {
			data := pattern(n)
			right := hashOf(t, plan, data)
			for _, p := range []api.Pool{poolOf(1, 1), poolOf(2, 1), poolOf(1, 2), poolOf(5, 2), poolOf(20, 1), poolOf(3, 1024)} {
				for at, picks := range c.manyPicks(rightBound(max(1, (n+1)/2), p)) {
					wantOneAnswer(t, fmt.Sprintf("tree %d, %d bytes, %v, picks %d", i, n, p, at), plan, data, p, picks, right)
				}
			}
		}
	}
}

func TestApart(t *testing.T) { // PO6, G2
	c := chance(12)
	for _, n := range []int{0, 1, 2, 3, 6, 20} {
		for _, p := range []api.Pool{poolOf(1, 1), poolOf(2, 1), poolOf(1, 2), poolOf(3, 3), poolOf(7, 2), poolOf(4, 100)} {
			for at, picks := range c.manyPicks(rightBound(n, p)) {
				wantApart(t, fmt.Sprintf("%d jobs, %v, picks %d", n, p, at), n, p, picks)
			}
			for at := range 20 {
				wantApart(t, fmt.Sprintf("%d jobs, %v, bursts %d", n, p, at), n, p, c.bursts(rightBound(n, p)))
			}
		}
	}
	for _, p := range []api.Pool{poolOf(api.MaxWorkers, 1), poolOf(3, 64), poolOf(1, 1), poolOf(64, api.MaxRoom)} {
		wantApart(t, fmt.Sprint("300 jobs, ", p), 300, p, c.bursts(6000))
	}
	wantApart(t, "the greatest", api.MaxJobs, poolOf(api.MaxWorkers, api.MaxRoom), c.bursts(17000))
}

// driven tells picks by which, of those that are ready, always one comes that wish ranks highest.
func driven(t *testing.T, s api.System, steps int, wish func(who, step int) int) []int {
	t.Helper()
	var picks []int
	for step := range steps {
		ready, e := sched.Ready(s, picks)
		if e != api.OK || len(ready) == 0 {
			t.Fatalf("step %d: ready %v, error %d", step, ready, e)
		}
		best := 0
		for at, who := range ready {
			if wish(who, step) > wish(ready[best], step) {
				best = at
			}
		}
		picks = append(picks, best)
	}
	return picks
}

func TestUnfairRuns(t *testing.T) { // PO5, PO6: somebody goes on as far as he can, or waits as long as he can
	plan := grown(api.Big, 2, 255, 2)
	for _, p := range []api.Pool{poolOf(1, 1), poolOf(2, 1), poolOf(3, 2), poolOf(2, 4)} {
		for _, n := range []int{1, 4, 7} {
			data := pattern(2 * n)
			right := hashOf(t, plan, data)
			s, steps := systemOf(t, n, p), rightBound(n, p)
			for who := range p.Workers + 3 {
				wishes := map[string]func(int, int) int{
					"always ahead":        func(w, _ int) int { return level(w == who) },
					"always behind":       func(w, _ int) int { return level(w != who) },
					"behind, others back": func(w, _ int) int { return level(w != who)*100 + w },
					"ahead by turns":      func(w, step int) int { return level(w == who) * (step / 9 % 3) },
					"ahead at first":      func(w, step int) int { return level(w == who)*50 - step%(w+2) },
				}
				for _, what := range []string{"always ahead", "always behind", "behind, others back", "ahead by turns", "ahead at first"} {
					picks := driven(t, s, steps, wishes[what])
					what = fmt.Sprintf("%v, %d jobs, runner %d %s", p, n, who, what)
					wantOneAnswer(t, what, plan, data, p, picks, right)
					wantApart(t, what, n, p, picks)
				}
			}
		}
	}
}

func level(is bool) int {
	if is {
		return 1
	}
	return 0
}

// scene is all that a small system's run has come to: what comes next hangs on it alone.
type scene struct {
	runners [7]player
	count   int
	queues  [3]queue
	group   int
	cells   [6]int8
	folded  [6]int8 // how often each leaf came to the combiner
}

type player struct {
	prog, at  int8
	registers [5]int8
}

type queue struct {
	values [6]int8
	held   int8
	closed bool
}

// can tells whether a runner can take its next step.
func (c *scene) can(s api.System, who int) bool {
	r := c.runners[who]
	if int(r.at) >= len(s.Progs[r.prog]) {
		return false
	}
	i := s.Progs[r.prog][r.at]
	switch i.Op {
	case api.OpSend:
		return c.queues[i.A].closed || int(c.queues[i.A].held) < s.Rooms[i.A]
	case api.OpTake:
		return c.queues[i.A].closed || c.queues[i.A].held > 0
	case api.OpWait:
		return c.group == 0
	}
	return true
}

// step takes a runner's next step, and tells a fault, if it is one.
func (c *scene) step(s api.System, who int) (fault string) {
	r := &c.runners[who]
	i := s.Progs[r.prog][r.at]
	r.at++
	g := &r.registers
	switch i.Op {
	case api.OpSet:
		g[i.A] = int8(i.B)
	case api.OpSum:
		g[i.A] += g[i.B]
	case api.OpLess:
		if g[i.A] < g[i.B] {
			r.at = int8(i.C)
		}
	case api.OpJump:
		r.at = int8(i.C)
	case api.OpSend, api.OpTake, api.OpClose:
		return c.pass(r, i)
	case api.OpAdd:
		if c.group += i.B; c.group < 0 {
			return "the group is below 0"
		}
	case api.OpRead:
		g[i.B] = c.cells[g[i.A]]
	case api.OpWrite:
		c.cells[g[i.A]] = g[i.B]
	case api.OpStart:
		c.runners[c.count] = player{prog: int8(i.A), registers: *g}
		c.count++
	case api.OpWork:
		if i.A == 1 {
			if c.folded[g[i.B]]++; c.folded[g[i.B]] > 1 {
				return "a leaf twice"
			}
		}
	case api.OpEnd:
		r.at = int8(len(s.Progs[r.prog]))
	}
	return ""
}

// pass does what a channel has a part in.
func (c *scene) pass(r *player, i api.Inst) (fault string) {
	q := &c.queues[i.A]
	switch i.Op {
	case api.OpSend:
		if q.closed {
			return "a value into a closed channel"
		}
		q.values[q.held] = r.registers[i.B]
		q.held++
	case api.OpTake:
		if q.held == 0 {
			r.at = int8(i.C)
			break
		}
		r.registers[i.B] = q.values[0]
		copy(q.values[:], q.values[1:])
		q.held--
		q.values[q.held] = 0
	case api.OpClose:
		if q.closed {
			return "closed twice"
		}
		q.closed = true
	}
	return ""
}

// touches tells the cell that a runner's next step is an access of, or -1, and whether it writes there.
func (c *scene) touches(s api.System, who int) (cell int, writes bool) {
	r := c.runners[who]
	if int(r.at) < len(s.Progs[r.prog]) {
		if i := s.Progs[r.prog][r.at]; i.Op == api.OpRead || i.Op == api.OpWrite {
			return int(r.registers[i.A]), i.Op == api.OpWrite
		}
	}
	return -1, false
}

// wantNoMeeting holds that no two are at one cell at one time, one of them to write there.
func wantNoMeeting(t *testing.T, s api.System, c scene) {
	t.Helper()
	for one := range c.count {
		for other := range one {
			a, writes := c.touches(s, one)
			b, alsoWrites := c.touches(s, other)
			if a == b && a >= 0 && (writes || alsoWrites) {
				t.Fatalf("runners %d and %d meet at cell %d", other, one, a)
			}
		}
	}
}

// after tells the scenes that follow a scene by one step of somebody.
func (c scene) after(t *testing.T, s api.System) []scene {
	t.Helper()
	var list []scene
	for who := range c.count {
		if c.can(s, who) {
			next := c
			if fault := next.step(s, who); fault != "" {
				t.Fatalf("runner %d: %s", who, fault)
			}
			list = append(list, next)
		}
	}
	return list
}

func TestAllRunsOfSmallPools(t *testing.T) { // PO4, PO5, PO6: every run that picks can lead to, scene by scene
	for _, x := range []struct{ jobs, workers, queue int }{
		{0, 1, 1}, {0, 2, 1}, {0, 4, 2}, {1, 1, 1}, {1, 2, 1}, {1, 4, 1}, {2, 1, 1}, {2, 1, 2}, {2, 2, 1}, {2, 2, 2}, {2, 3, 3},
		{3, 1, 1}, {3, 1, 5}, {3, 2, 1}, {3, 3, 1}, {4, 2, 2}, {5, 2, 1}, {6, 1, 1}, {6, 2, 1},
	} {
		p := poolOf(x.workers, x.queue)
		s := systemOf(t, x.jobs, p)
		ends := 0
		scenes := map[scene]int{{count: 1}: 1}
		for step := 0; len(scenes) > 0; step++ {
			next := map[scene]int{}
			for c := range scenes {
				wantNoMeeting(t, s, c)
				list := c.after(t, s)
				for _, n := range list {
					next[n]++
				}
				if len(list) == 0 {
					wantAllDone(t, s, c, step, rightBound(x.jobs, p), x.jobs)
					ends++
				}
			}
			scenes = next
		}
		if ends == 0 {
			t.Errorf("%v: no run ends", x)
		}
	}
}

// wantAllDone holds that a scene in which nobody can go on is the end: all have ended, behind so many steps, and each leaf has come.
func wantAllDone(t *testing.T, s api.System, c scene, step, bound, jobs int) {
	t.Helper()
	for _, r := range c.runners[:c.count] {
		if int(r.at) < len(s.Progs[r.prog]) {
			t.Fatalf("behind %d steps program %d is stuck at %d", step, r.prog, r.at)
		}
	}
	came := 0
	for _, n := range c.folded {
		came += int(n)
	}
	if step != bound || came != jobs {
		t.Fatalf("done behind %d steps, want %d; %d leaves came, want %d", step, bound, came, jobs)
	}
}
