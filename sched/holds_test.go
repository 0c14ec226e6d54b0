package sched

import (
	"fmt"
	"slices"
	"testing"

	"quern/api"
)

// buffers are those of a pool, as chapter 15 tells them.
func buffers(workers, queue int) int {
	return min(workers+queue, api.MaxBuffers)
}

// pool tells the pool's system of chapter 15, for n jobs.
func pool(n, workers, queue int) api.System {
	b := buffers(workers, queue)
	s := bare(
		fmt.Sprintf("Set 0 0; Set 1 %d; Set 2 1; Less 0 1 5; Jump 0 0 9; Add 0 1; Start 1; Sum 0 2; Jump 0 0 3; Start 2; Start 3; Take 1 3 14; Work 1 3; Jump 0 0 11; End", workers),
		"Take 0 3 6; Read 3 4; Work 0 4; Send 2 3; Send 1 4; Jump 0 0 0; Add 0 -1; End",
		fmt.Sprintf("Set 0 0; Set 1 %d; Set 2 1; Less 0 1 5; Jump 0 0 8; Send 2 0; Sum 0 2; Jump 0 0 3; Set 0 0; Set 1 %d; Less 0 1 12; Jump 0 0 17; Take 2 3 17; Write 3 0; Send 0 3; Sum 0 2; Jump 0 0 10; Close 0; End", b, n),
		"Wait 0; Close 1; End")
	s.Rooms, s.Groups, s.Cells = []int{queue, queue, b}, 1, b
	return s
}

// wantPool plays the pool's system, and holds that it ends with all done, in as many steps as are told ahead, each job told once.
func wantPool(t *testing.T, n, workers, queue int, picks []int) {
	t.Helper()
	what := fmt.Sprintf("%d jobs, %d workers, a queue of %d", n, workers, queue)
	r := played(t, what, pool(n, workers, queue), picks...)
	wantEnd(t, what, r, api.EndDone, api.OK, 23+8*workers+4*buffers(workers, queue)+15*n)
	if r.Runners != workers+3 {
		t.Errorf("%s: %d runners", what, r.Runners)
	}
	var order []int
	for _, e := range r.Events {
		if e.Op == api.OpWork && e.A == 1 {
			order = append(order, e.Value)
		}
	}
	slices.Sort(order)
	right := make([]int, n)
	for i := range right {
		right[i] = i
	}
	if !slices.Equal(order, right) {
		t.Errorf("%s: jobs %v", what, order)
	}
	wantSound(t, what, pool(n, workers, queue), r)
}

func TestPool(t *testing.T) { // G2: whatever the picks, nobody is ever stuck, nothing goes into a closed channel, none is closed twice
	c := chance(15)
	for _, n := range []int{0, 1, 2, 3, 7, 20} {
		for _, workers := range []int{1, 2, 3, 8} {
			for _, queue := range []int{1, 2, 5, 100} {
				most := 23 + 8*workers + 4*buffers(workers, queue) + 15*n
				for _, picks := range [][]int{nil, slices.Repeat([]int{-1}, most), slices.Repeat([]int{1}, most), slices.Repeat([]int{0, 1, 2, 3, 4}, most), c.picks(most), c.picks(most), c.picks(most / 2)} {
					wantPool(t, n, workers, queue, picks)
				}
			}
		}
	}
	for range 3 {
		wantPool(t, api.MaxJobs, 3, 64, c.picks(20000))
		wantPool(t, 50, api.MaxWorkers, api.MaxRoom, c.picks(5000))
		wantPool(t, api.MaxJobs, api.MaxWorkers, 1, c.picks(20000))
	}
}

// wantSound holds SC5 on a run: a channel gives what went in, in that order, each once, and never holds more than its room.
func wantSound(t *testing.T, what string, s api.System, r api.Run) {
	t.Helper()
	held := make([][]int, len(s.Rooms))
	for i, e := range r.Events {
		if r.End == api.EndFault && i == len(r.Events)-1 {
			break // nothing of the last step was done
		}
		switch {
		case e.Op == api.OpSend:
			held[e.A] = append(held[e.A], e.Value)
		case e.Op == api.OpTake && e.Shut:
			if len(held[e.A]) > 0 {
				t.Errorf("%s: event %d: channel %d still holds %v", what, i, e.A, held[e.A])
			}
		case e.Op == api.OpTake:
			if len(held[e.A]) == 0 || held[e.A][0] != e.Value {
				t.Fatalf("%s: event %d: %d comes out of channel %d, which holds %v", what, i, e.Value, e.A, held[e.A])
			}
			held[e.A] = held[e.A][1:]
		default:
			continue
		}
		if len(held[e.A]) > s.Rooms[e.A] {
			t.Errorf("%s: event %d: channel %d of room %d holds %v", what, i, e.A, s.Rooms[e.A], held[e.A])
		}
	}
}

func TestChannelsHold(t *testing.T) { // SC5: in runs by chance
	c := chance(21)
	for range 3000 {
		s := byChance(&c)
		wantSound(t, "by chance", s, played(t, "by chance", s, c.picks(c.below(80))...))
	}
}

func TestChannelsOfMany(t *testing.T) { // SC5: three send rising numbers, three others take them, hand them on and take them again
	c := chance(25)
	for range 60 {
		s := bare("Start 1; Start 2; Start 1; Start 2; Start 1; Start 2; Wait 0; End",
			"Set 1 1; Set 2 20; Send 0 0; Sum 0 1; Less 0 2 2",
			"Set 1 1; Set 2 20; Take 0 3 3; Send 1 3; Take 1 4 5; Sum 0 1; Less 0 2 2")
		s.Rooms, s.Groups = []int{1 + c.below(4), 3 + c.below(3)}, 1
		r := played(t, "many", s, c.picks(c.below(600))...)
		wantEnd(t, "many", r, api.EndDone, api.OK, 8+3*(2+3*20)+3*(2+5*20))
		wantSound(t, "many", s, r)
		var out [2][]int
		for _, e := range r.Events {
			if e.Op == api.OpTake {
				out[e.A] = append(out[e.A], e.Value)
			}
		}
		var right []int
		for i := range 20 {
			right = append(right, i, i, i)
		}
		for channel, list := range out {
			if slices.Sort(list); !slices.Equal(list, right) {
				t.Errorf("channel %d: %v came out", channel, list)
			}
		}
	}
}

func TestBeginAlike(t *testing.T) { // SC5: as far as the shorter list's picks go
	c := chance(23)
	for range 1500 {
		s := byChance(&c)
		picks := c.picks(c.below(60))
		whole := played(t, "by chance", s, picks...)
		for _, n := range []int{0, 1, len(picks) / 2, len(picks)} {
			n = min(n, len(picks))
			short := played(t, "a beginning", s, picks[:n]...)
			alike := min(n, len(whole.Events))
			if len(short.Events) < alike || !slices.Equal(short.Events[:alike], whole.Events[:alike]) {
				t.Errorf("with %d of %d picks the run begins otherwise", n, len(picks))
			}
			// Picks that are 0 change nothing behind the last one.
			wantSame(t, "with noughts behind", played(t, "noughts", s, append(slices.Clone(picks[:n]), 0, 0, 0)...), short)
		}
	}
}

func TestSameAgain(t *testing.T) { // SC5, P5: a run hangs on system and picks alone
	c := chance(29)
	for range 300 {
		s, other := byChance(&c), byChance(&c)
		picks := c.picks(30)
		first := played(t, "by chance", s, picks...)
		ready, _ := Ready(s, picks)
		played(t, "another one", other, picks...)
		wantSame(t, "again", played(t, "again", s, picks...), first)
		// What a system has beside, and nobody touches, changes nothing.
		s.Rooms, s.Groups, s.Locks = append(s.Rooms, 5), s.Groups+1, s.Locks+1
		s.Progs = append(s.Progs, prog("Work 3"))
		wantSame(t, "with more beside", played(t, "more", s, picks...), first)
		wantReady(t, "with more beside", s, picks, ready...)
	}
}
