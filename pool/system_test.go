package pool

import (
	"math"
	"testing"

	"quern/api"
	"quern/sched"
)

// someJobs are numbers of jobs that may be, noJobs some that may not.
var (
	someJobs = []int{0, 1, 2, 3, 17, 63, 64, 65, 1000, 1023, 1024}
	noJobs   = []int{-1, -2, 1025, 1026, 40000, math.MinInt, math.MaxInt}
)

func TestSystemIsTheTable(t *testing.T) { // PO1: each instruction, and what the programs share
	for _, p := range pools() {
		for _, n := range someJobs {
			got, right := systemOf(t, n, p), rightSystem(n, p)
			if sameSystem(got, right) {
				continue
			}
			t.Errorf("%d jobs, %v: rooms %v, %d groups, %d locks, %d cells, want %v, %d, %d, %d", n, p, got.Rooms, got.Groups, got.Locks, got.Cells, right.Rooms, right.Groups, right.Locks, right.Cells)
			for at := range min(len(got.Progs), len(right.Progs)) {
				for place := range min(len(got.Progs[at]), len(right.Progs[at])) {
					if a, b := got.Progs[at][place], right.Progs[at][place]; a != b {
						t.Errorf("program %d, place %d: %v, want %v", at, place, a, b)
					}
				}
			}
		}
	}
}

func TestSystemByHand(t *testing.T) { // PO1: two numbers apart for W, Q and B, so that none stands for another
	s := systemOf(t, 9, poolOf(3, 5))
	for _, x := range []struct {
		what       string
		got, right int
	}{
		{"programs", len(s.Progs), 4},
		{"the combiner's instructions", len(s.Progs[0]), 15},
		{"a worker's", len(s.Progs[1]), 8},
		{"the feeder's", len(s.Progs[2]), 19},
		{"those of who closes", len(s.Progs[3]), 3},
		{"workers", s.Progs[0][1].B, 3},
		{"buffers", s.Progs[2][1].B, 8},
		{"jobs", s.Progs[2][9].B, 9},
		{"room of jobs", s.Rooms[0], 5},
		{"room of results", s.Rooms[1], 5},
		{"room of free buffers", s.Rooms[2], 8},
		{"channels", len(s.Rooms), 3},
		{"groups", s.Groups, 1},
		{"locks", s.Locks, 0},
		{"cells", s.Cells, 8},
	} {
		if x.got != x.right {
			t.Errorf("%s: %d, want %d", x.what, x.got, x.right)
		}
	}
}

func TestSystemMayBe(t *testing.T) { // sched.Valid takes it
	for _, p := range pools() {
		for _, n := range someJobs {
			if e := sched.Valid(systemOf(t, n, p)); e != api.OK {
				t.Errorf("%d jobs, %v: error %d", n, p, e)
			}
		}
	}
}

func TestRefusedSystems(t *testing.T) { // PO1, PO4, P2: the pool is looked at ahead of the jobs
	want := func(n int, p api.Pool, why api.Errno) {
		t.Helper()
		if s, e := System(n, p); e != why || !isNoSystem(s) {
			t.Errorf("System(%d, %v): %v, error %d, want %d", n, p, s, e, why)
		}
		if steps, e := Bound(n, p); e != why || steps != 0 {
			t.Errorf("Bound(%d, %v): %d, error %d, want %d", n, p, steps, e, why)
		}
	}
	for _, n := range noJobs {
		for _, p := range pools() {
			want(n, p, api.ErrArg)
		}
	}
	for _, p := range noPools() {
		for _, n := range someJobs {
			want(n, p, api.ErrPool)
		}
		for _, n := range noJobs {
			want(n, p, api.ErrPool)
		}
	}
}

func TestBound(t *testing.T) { // PO4: the formula, and its four parts
	for _, x := range []struct{ jobs, workers, queue, right int }{
		{1, 1, 1, 54},
		{0, 1, 1, 39},
		{0, 3, 2, 67},
		{4, 3, 2, 127},
		{1024, 1, 1, 15399},
		{1024, 256, 1024, 17687},
		{0, 256, 1024, 2327},
		{100, 60, 10, 2259},
	} {
		if n, e := Bound(x.jobs, poolOf(x.workers, x.queue)); n != x.right || e != api.OK {
			t.Errorf("%d jobs, %d workers, a queue of %d: %d, error %d, want %d", x.jobs, x.workers, x.queue, n, e, x.right)
		}
	}
	for _, p := range pools() {
		for _, n := range someJobs {
			if got, e := Bound(n, p); got != rightBound(n, p) || e != api.OK {
				t.Errorf("Bound(%d, %v): %d, error %d, want %d", n, p, got, e, rightBound(n, p))
			}
		}
	}
}

// wantParts holds how many steps each program takes in a run that has ended.
func wantParts(t *testing.T, n int, p api.Pool, run api.Run) {
	t.Helper()
	var parts [4]int // the combiner is runner 0, then come the workers, the feeder, who closes
	for _, e := range run.Events {
		switch {
		case e.Who == 0:
			parts[0]++
		case e.Who <= p.Workers:
			parts[1]++
		case e.Who == p.Workers+1:
			parts[2]++
		default:
			parts[3]++
		}
	}
	right := [4]int{9 + 5*p.Workers + 3*n, 3*p.Workers + 6*n, 11 + 4*rightBuffers(p) + 6*n, 3}
	if parts != right || run.Runners != p.Workers+3 {
		t.Errorf("%d jobs, %v: %v steps of %d runners, want %v", n, p, parts, run.Runners, right)
	}
}

func TestEachRunTakesBound(t *testing.T) { // PO4: at all picks; also without a job, which no message has
	c := chance(1)
	for _, p := range []api.Pool{poolOf(1, 1), poolOf(1, 3), poolOf(2, 1), poolOf(3, 2), poolOf(8, 1), poolOf(5, 100), poolOf(100, 3)} {
		for _, n := range []int{0, 1, 2, 5, 20, 80} {
			steps, e := Bound(n, p)
			sure(t, "Bound", steps, e)
			for _, picks := range c.manyPicks(steps) {
				run, e := sched.Play(systemOf(t, n, p), picks)
				if e != api.OK || run.End != api.EndDone || len(run.Events) != steps {
					t.Errorf("%d jobs, %v: end %d, %d steps, error %d, want %d", n, p, run.End, len(run.Events), e, steps)
				}
				wantParts(t, n, p, run)
			}
		}
	}
}

func TestGreatestRuns(t *testing.T) { // PO4, PO5: at all limits there are steps and runners enough
	c := chance(2)
	for _, p := range []api.Pool{poolOf(api.MaxWorkers, api.MaxRoom), poolOf(api.MaxWorkers, 1), poolOf(1, 1), poolOf(1, api.MaxRoom)} {
		for _, picks := range [][]int{nil, c.bursts(20000)} {
			run, e := sched.Play(systemOf(t, api.MaxJobs, p), picks)
			if e != api.OK || run.End != api.EndDone || len(run.Events) != rightBound(api.MaxJobs, p) {
				t.Errorf("%v: end %d, %d steps, error %d", p, run.End, len(run.Events), e)
			}
			wantParts(t, api.MaxJobs, p, run)
		}
	}
}
