package sched

import (
	"fmt"
	"math"
	"slices"
	"strings"
	"testing"

	"quern/api"
)

// crowd tells a system that, behind so many picks that are 0, has n runners, all of them ready for two steps.
func crowd(n int) (api.System, []int) {
	return bare(strings.Repeat("Start 1; ", n-1)+"Work 1; Work 2", "Work 3; Work 4"), zeros(n - 1)
}

func TestPickByItsRest(t *testing.T) { // SC2: the rest, 0 or more, of the next pick by how many are ready
	for _, n := range []int{1, 2, 3, 5, 8, 100} {
		s, ahead := crowd(n)
		for _, pick := range append([]int{0, 1, 2, 3, 4, 5, 7, 8, 99, 100, 101, -1, -2, -3, -7, -8, -100, -101, 12345678901, -12345678901}, ends...) {
			right := around(pick, n)
			r := played(t, "a pick", s, append(ahead, pick)...)
			if got := r.Events[len(ahead)].Who; got != right {
				t.Errorf("pick %d of %d: runner %d, want %d", pick, n, got, right)
			}
			if got := r.Events[len(ahead)+1].Who; got != 0 {
				t.Errorf("behind the last pick: runner %d", got)
			}
			// By the same rest the whole run is the same.
			for _, other := range []int{right, right - n, right + n, right + 1000*n} {
				wantSame(t, fmt.Sprint("pick ", other, " for ", pick, " of ", n), played(t, "a pick", s, append(ahead, other)...), r)
			}
		}
	}
}

func TestPickAmongTheReady(t *testing.T) { // SC2: it counts those that are ready, by rising numbers, and no others
	// Runners 1, 3 and 5 wait for ever, 2 has ended, 4 and 6 are ready.
	s := shared("Start 1; Start 2; Start 1; Start 3; Start 1; Start 3; Jump 0 0 6", "Take 0", "", "Work 7; Jump")
	ahead := zeros(6)
	for pick, who := range map[int]int{0: 0, 1: 4, 2: 6, 3: 0, 4: 4, 5: 6, -1: 6, -2: 4, -3: 0, math.MaxInt: 4, math.MinInt: 4} {
		r := played(t, "among the ready", s, append(ahead, pick)...)
		if got := r.Events[6].Who; got != who || around(pick, 3) != map[int]int{0: 0, 4: 1, 6: 2}[who] {
			t.Errorf("pick %d: runner %d, want %d", pick, got, who)
		}
	}
	wantReady(t, "among the ready", s, ahead, 0, 4, 6)
	// A runner that waits comes in again as soon as it can, at its place.
	s = shared("Start 1; Start 2; Send 0; Jump 0 0 3", "Take 0; Work 8", "Jump")
	wantReady(t, "ahead of a value", s, zeros(2), 0, 2)
	wantReady(t, "behind a value", s, zeros(3), 0, 1, 2)
	wantReady(t, "behind its take", s, []int{0, 0, 0, 1}, 0, 1, 2)
	wantReady(t, "behind its end", s, []int{0, 0, 0, 1, 1}, 0, 2)
}

func TestHowManyPicks(t *testing.T) { // SC2: none, fewer and more than there are steps; behind the last pick 0
	s := shared("Start 1; Start 1; Work 1; Work 2", "Work 3; Work 4")
	const all = "0 Start 1 1; 0 Start 1 2; 0 Work 1 0; 0 Work 2 0; 1 Work 3 0; 1 Work 4 0; 2 Work 3 0; 2 Work 4 0"
	for _, picks := range [][]int{nil, {}, {0}, zeros(7), zeros(8), zeros(9), zeros(100), append(zeros(8), 1, 2, 3), {2, 2}, {-1}} {
		told{fmt.Sprint(len(picks), " picks"), s, picks, api.EndDone, 0, all, 3, nil}.want(t)
	}
	for _, picks := range [][]int{{0, 0, 2, 1}, {0, 0, 2, 1, 0}, {0, 0, 2, 1, 0, 0, 0, 0}, {3, 4, 5, 4, -3, 9, -6, 77}} {
		told{fmt.Sprint(picks), s, picks, api.EndDone, 0,
			"0 Start 1 1; 0 Start 1 2; 2 Work 3 0; 1 Work 3 0; 0 Work 1 0; 0 Work 2 0; 1 Work 4 0; 2 Work 4 0", 3, nil}.want(t)
	}
}

func TestReady(t *testing.T) { // SC4: with no picks, in the midst, at the end, past it, past a fault
	s := shared("Start 1; Set 0 7; Send 0 0; Close 0", "Take 0 1 2; Jump 0")
	for n, right := range [][]int{{0}, {0}, {0}, {0, 1}, {1}, {1}, {1}, nil, nil, nil} {
		wantReady(t, fmt.Sprint(n, " picks"), s, zeros(n), right...)
	}
	wantReady(t, "none", s, nil, 0)
	wantReady(t, "an empty list", s, []int{}, 0)
	wantReady(t, "a first program without an instruction", bare("", "Work"), nil)
	wantReady(t, "a first program without an instruction, past its end", bare("", "Work"), []int{1, 2})
	wantReady(t, "stuck at first", shared("Take 0"), nil)
	wantReady(t, "stuck", shared("Work; Take 0"), []int{0})
	wantReady(t, "past where it is stuck", shared("Work; Take 0"), []int{0, 0, 0})
	wantReady(t, "an instruction that is an error can be done", shared("Free 0"), nil, 0)
	wantReady(t, "a fault", shared("Free 0"), []int{0})
	wantReady(t, "past a fault", shared("Free 0"), []int{0, 0, 0})
	two := shared("Start 1; Close 1; Close 1; Work", "Work; Work; Work")
	wantReady(t, "ahead of a fault", two, []int{0, 0}, 0, 1)
	wantReady(t, "a fault, another goes on", two, []int{0, 0, 0})
	wantReady(t, "past a fault, another goes on", two, []int{0, 0, 0, 0})
	wantReady(t, "another is picked", two, []int{0, 0, 1}, 0, 1)
	wantReady(t, "by great picks", two, []int{math.MinInt, math.MaxInt, math.MinInt}, 0, 1)
}

func TestReadyOfMany(t *testing.T) { // SC4: up to MaxRunner
	for _, n := range []int{1, 2, 100, 512} {
		s := starter(n-1, "Work 1")
		picks := zeros(2 + 3*(n-1))
		if n == 1 {
			s, picks = bare("Work 1"), nil
		}
		got, e := Ready(s, picks)
		right := make([]int, n)
		for i := range right {
			right[i] = i
		}
		if e != api.OK || !slices.Equal(got, right) {
			t.Errorf("%d runners: %v, error %d", n, got, e)
		}
	}
}

func TestAllRuns(t *testing.T) { // SC2, SC4, SC5: every list of picks of small systems, by what Ready tells
	for text, runs := range map[string]int{
		"Work":                          1,
		"Start 1; Work | Work":          2,
		"Start 1; Work; Work | Work":    3,
		"Start 1; Start 1; Work | Work": 8,
		"Start 1; Set 0 7; Send 0 0; Close 0 | Take 0 1 2; Jump 0": 0,
		"Start 1; Lock 0; Lock 1; Free 1; Free 0 | Lock 1; Lock 0": 0,
		"Start 1; Start 1; Close 0 | Take 0 0 1; Free 0":           0,
		"Add 0 2; Start 1; Start 1; Wait 0 | Write 0 0; Add 0 -1":  0,
	} {
		s := shared(strings.Split(text, "|")...)
		got := follow(t, text, s, nil)
		if runs > 0 && got != runs {
			t.Errorf("%s: %d runs, want %d", text, got, runs)
		}
		if got == 0 {
			t.Errorf("%s: no run", text)
		}
	}
}

// follow goes through all runs that begin with these picks, and tells how many there are.
func follow(t *testing.T, what string, s api.System, picks []int) int {
	ready, e := Ready(s, picks)
	if e != api.OK || !slices.IsSorted(ready) {
		t.Fatalf("%s: Ready %v, error %d", what, ready, e)
	}
	if len(ready) == 0 {
		r := played(t, what, s, picks...)
		if len(r.Events) != len(picks) {
			t.Errorf("%s: nobody is ready behind %v, but %d events", what, picks, len(r.Events))
		}
		wantSame(t, what, r, modelPlay(s, picks))
		return 1
	}
	runs := 0
	for i, who := range ready {
		next := append(slices.Clone(picks), i)
		r := played(t, what, s, next...)
		if len(r.Events) <= len(picks) || r.Events[len(picks)].Who != who {
			t.Errorf("%s: pick %d behind %v: %s", what, i, picks, show(r.Events))
		}
		runs += follow(t, what, s, next)
	}
	return runs
}
