package pool

import (
	"bytes"
	"fmt"
	"math"
	"slices"
	"testing"

	"quern/api"
)

func wantPlay(t *testing.T, what string, plan api.Tree, data []byte, p api.Pool, picks []int, right api.PoolRun) {
	t.Helper()
	got, e := Play(plan, data, p, picks)
	if e != api.OK || !sameRun(got, right) {
		t.Errorf("Play, %s: %v, error %d, want %v", what, got, e, right)
	}
}

func wantNoPlay(t *testing.T, what string, plan api.Tree, data []byte, p api.Pool, why api.Errno) {
	t.Helper()
	for _, picks := range [][]int{nil, {}, {0, 1, 2}, {-1, math.MinInt, math.MaxInt}} {
		if got, e := Play(plan, data, p, picks); e != why || !isNoRun(got) {
			t.Errorf("Play, %s: %v, error %d, want error %d", what, got, e, why)
		}
	}
}

func TestPlayIsTheRun(t *testing.T) { // PO3: End, Steps, Order, Most, Digest, as the chapter's system and its run tell them
	c := chance(6)
	for i, plan := range trees() {
		for _, p := range []api.Pool{poolOf(1, 1), poolOf(2, 1), poolOf(1, 4), poolOf(3, 2), poolOf(9, 3), poolOf(4, 70)} {
			for _, n := range []int{0, 1, 2, 3, 9, 16, 31} {
				data := pattern(n)
				leaves := max(1, (n+1)/2)
				for at, picks := range c.manyPicks(rightBound(leaves, p)) {
					what := fmt.Sprintf("tree %d, %v, %d bytes, picks %d", i, p, n, at)
					wantPlay(t, what, plan, data, p, picks, rightRun(t, plan, data, p, picks))
				}
			}
		}
	}
}

func TestPlayWithoutPicks(t *testing.T) { // PO3: who comes first goes first
	plan := bare(api.Small, 2, 9, 2)
	data := pattern(7)
	right := api.PoolRun{Digest: hashOf(t, plan, data), Order: []int{0, 1, 2, 3}, Steps: 23 + 24 + 20 + 60, Most: 1, End: api.EndDone}
	wantPlay(t, "no picks", plan, data, poolOf(3, 2), nil, right)
	wantPlay(t, "an empty list", plan, data, poolOf(3, 2), []int{}, right)
	wantPlay(t, "noughts", plan, data, poolOf(3, 2), make([]int, 500), right)
}

func TestPlayAnEmptyMessage(t *testing.T) { // PO3: one leaf, one job
	for i, plan := range trees() {
		for _, picks := range [][]int{nil, slices.Repeat([]int{-1}, 60), slices.Repeat([]int{2, 1}, 40)} {
			right := api.PoolRun{Digest: hashOf(t, plan, nil), Order: []int{0}, Steps: 54, Most: 1, End: api.EndDone}
			wantPlay(t, fmt.Sprint("tree ", i), plan, nil, poolOf(1, 1), picks, right)
			wantPlay(t, fmt.Sprint("tree ", i), plan, []byte{}, poolOf(1, 1), picks, right)
		}
	}
}

func TestPlayMostAndOrder(t *testing.T) { // PO3: with the last ready one always ahead the queue is filled as far as it goes
	plan := bare(api.Big, 2, 255, 1)
	data := pattern(12)
	for _, x := range []struct {
		workers, queue, most int
	}{{1, 1, 1}, {1, 2, 2}, {1, 5, 5}, {2, 3, 3}, {1, 11, 11}, {1, 12, 12}, {1, 13, 12}, {3, 1024, 12}} {
		p := poolOf(x.workers, x.queue)
		got := playOf(t, plan, data, p, slices.Repeat([]int{-1}, 2000))
		if got.Most != x.most {
			t.Errorf("%v: Most %d, want %d", p, got.Most, x.most)
		}
	}
	// One worker has no other to be ahead of it.
	for _, picks := range [][]int{nil, slices.Repeat([]int{-1}, 400), slices.Repeat([]int{1}, 400), slices.Repeat([]int{3, 1}, 200)} {
		if got := playOf(t, plan, data, poolOf(1, 3), picks); !slices.Equal(got.Order, numbers(12)) {
			t.Errorf("one worker: order %v", got.Order)
		}
	}
	// Among several each leaf may be the first one, and the last one.
	c := chance(7)
	var first, last [3]bool
	for range 400 {
		got := playOf(t, plan, data[:3], poolOf(3, 3), c.bursts(200))
		first[got.Order[0]], last[got.Order[2]] = true, true
	}
	if first != [3]bool{true, true, true} || last != first {
		t.Errorf("leaves that were the first one %v, the last one %v", first, last)
	}
}

func TestPlayPicksByTheirRest(t *testing.T) { // PO3: picks below 0 and of any size
	c := chance(8)
	plan := grown(api.Small, 3, 4, 2)
	data := pattern(17)
	p := poolOf(2, 2) // five runners: 60 is a multiple of however many are ready
	for range 60 {
		picks := c.picks(220)
		right := playOf(t, plan, data, p, picks)
		for _, by := range []int{60, -60, 60 << 50, math.MinInt / 60 * 60} {
			moved := slices.Clone(picks)
			for i := range moved {
				moved[i] = (moved[i]%60+60)%60 + by
			}
			wantPlay(t, fmt.Sprint("moved by ", by), plan, data, p, moved, right)
		}
	}
}

func TestPlayMorePicksThanSteps(t *testing.T) { // PO3: those behind the last step count for nothing, those that are missing are 0
	c := chance(9)
	plan := bare(api.Big, 2, 3, 4)
	data := pattern(30)
	p := poolOf(3, 2)
	steps := rightBound(8, p)
	for range 30 {
		picks := c.bursts(steps)
		right := playOf(t, plan, data, p, picks)
		wantPlay(t, "one more", plan, data, p, append(slices.Clone(picks), 3), right)
		wantPlay(t, "many more", plan, data, p, append(slices.Clone(picks), c.picks(api.MaxSteps+5)...), right)
		wantPlay(t, "one less: but one is ready for the last step", plan, data, p, picks[:steps-1], right)
		half := playOf(t, plan, data, p, picks[:steps/2])
		wantPlay(t, "noughts behind the half", plan, data, p, append(slices.Clone(picks[:steps/2]), make([]int, 400)...), half)
	}
}

func TestPlayRefuses(t *testing.T) { // PO3: shape's errors, the pool's, ErrLong, in this order
	good, wide := poolOf(2, 2), pattern(4*api.MaxJobs+1)
	for _, f := range faults() {
		for _, data := range [][]byte{nil, pattern(5), wide} {
			wantNoPlay(t, f.what, f.tree, data, good, f.why)
			wantNoPlay(t, f.what+" and no pool", f.tree, data, poolOf(0, 0), f.why)
		}
	}
	for _, k := range kinds {
		for _, plan := range []api.Tree{bare(k, 2, 255, 4), grown(k, 0, 2, 4)} {
			for _, p := range noPools() {
				for _, data := range [][]byte{nil, {}, pattern(5), wide} {
					wantNoPlay(t, fmt.Sprint("pool ", p), plan, data, p, api.ErrPool)
				}
			}
			wantNoPlay(t, "a leaf too many", plan, wide, good, api.ErrLong)
			wantNoPlay(t, "a leaf too many, the greatest pool", plan, wide, poolOf(api.MaxWorkers, api.MaxRoom), api.ErrLong)
			plan.Leaf = 1
			wantNoPlay(t, "many leaves too many", plan, pattern(100000), good, api.ErrLong)
		}
	}
}

func TestPlayMaxJobs(t *testing.T) { // PO3: at MaxJobs leaves
	c := chance(10)
	for _, plan := range []api.Tree{bare(api.Big, 2, 255, 4), grown(api.Small, 0, 2, 4), bare(api.Small, 3, 3, 4)} {
		for _, n := range []int{4 * api.MaxJobs, 4*api.MaxJobs - 3, 4*api.MaxJobs - 4} {
			data := pattern(n)
			for _, p := range []api.Pool{poolOf(1, 1), poolOf(3, 64), poolOf(api.MaxWorkers, api.MaxRoom)} {
				picks := c.bursts(9000)
				wantPlay(t, fmt.Sprint(n, " bytes, ", p), plan, data, p, picks, rightRun(t, plan, data, p, picks))
			}
		}
	}
}

func TestPlayOfOneLeaf(t *testing.T) { // PO3: a leaf that is longer than the message, and as long
	for _, k := range kinds {
		for _, leaf := range []uint32{100, 101, math.MaxUint32} {
			plan := grown(k, 2, 255, leaf)
			data := pattern(100)
			got := playOf(t, plan, data, poolOf(4, 4), []int{5, 4, 3, 2, 1})
			if !bytes.Equal(got.Digest, hashOf(t, plan, data)) || !slices.Equal(got.Order, []int{0}) || got.Most != 1 || got.Steps != 23+32+32+15 {
				t.Errorf("leaf %d: %v", leaf, got)
			}
		}
	}
}
