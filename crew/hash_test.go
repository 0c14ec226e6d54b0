package crew

import (
	"fmt"
	"slices"
	"testing"

	"quern/api"
	"quern/live"
	"quern/pool"
)

func TestHash(t *testing.T) { // CR4, G1: no byte, one, a leaf, one more, several rows
	for i, plan := range trees() {
		for _, n := range lengths {
			data := pattern(n)
			right := hashOf(t, plan, data)
			for _, p := range pools() {
				got, e := Hash(plan, p, data)
				wantBytes(t, fmt.Sprintf("tree %d, %d bytes, %v", i, n, p), got, e, right)
			}
		}
	}
}

func TestHashAtTheEnds(t *testing.T) { // CR4: trees at their ends
	for _, k := range kinds {
		for _, plan := range []api.Tree{greatest(k), least(k)} {
			for _, n := range []int{0, 1, 300} {
				got, e := Hash(plan, poolOf(api.MaxWorkers, api.MaxRoom), pattern(n))
				wantBytes(t, fmt.Sprint(plan), got, e, hashOf(t, plan, pattern(n)))
			}
		}
	}
}

func TestHashOfMoreThanABatch(t *testing.T) { // CR4, G1: as a crew's, at all edges of a batch
	for _, plan := range []api.Tree{bare(api.Small, 16, 255, 1), grown(api.Big, 2, 6, 1)} {
		for _, n := range []int{batch, batch + 1, batch + 2, 3*batch + 1} {
			for _, p := range pools() {
				got, e := Hash(plan, p, pattern(n))
				wantBytes(t, fmt.Sprintf("%d bytes, %v", n, p), got, e, hashOf(t, plan, pattern(n)))
			}
		}
	}
}

func TestAsOthersTellIt(t *testing.T) { // G1: as the pool by picks, and the one that really runs
	for i, plan := range trees() {
		for _, p := range []api.Pool{poolOf(1, 1), poolOf(3, 2), poolOf(9, 5)} {
			data := pattern(61)
			run, e := pool.Play(plan, data, p, []int{5, -3, 2, 2, 7, 1, -1})
			sure(t, "pool.Play", run, e)
			alive, e := live.Hash(plan, p, data)
			sure(t, "live.Hash", alive, e)
			got, e := Hash(plan, p, data)
			wantBytes(t, fmt.Sprintf("tree %d, %v, picks", i, p), got, e, run.Digest)
			wantBytes(t, fmt.Sprintf("tree %d, %v, live", i, p), got, e, alive)
		}
	}
}

func manyOf(t *testing.T, plan api.Tree, list [][]byte) [][]byte {
	t.Helper()
	var digests [][]byte
	for _, data := range list {
		digests = append(digests, hashOf(t, plan, data))
	}
	return digests
}

func TestMany(t *testing.T) { // CR4: no message, one, several and empty ones, in order
	for i, plan := range trees() {
		for _, list := range [][][]byte{
			nil, {}, {nil}, {{}}, {nil, {}, nil}, {pattern(9)}, {pattern(9), nil, pattern(4)},
			{pattern(300), pattern(100), pattern(5), pattern(1), nil},
			{pattern(7), pattern(7), pattern(7)},
		} {
			right := manyOf(t, plan, list)
			for _, p := range pools() {
				got, e := Many(plan, p, list)
				wantLists(t, fmt.Sprintf("tree %d, %d messages, %v", i, len(list), p), got, e, right)
			}
		}
	}
}

func TestManyInOrder(t *testing.T) { // CR4: the first messages take by far the longest
	plan := grown(api.Big, 2, 255, 64)
	var list [][]byte
	for i := range 40 {
		list = append(list, pattern((40-i)*(40-i)*10))
	}
	right := manyOf(t, plan, list)
	for _, p := range pools() {
		got, e := Many(plan, p, list)
		wantLists(t, fmt.Sprint(p), got, e, right)
	}
}

func messages(n int) [][]byte {
	list := make([][]byte, n)
	for i := range list {
		list[i] = fmt.Append(nil, "message ", i)
	}
	return list
}

func TestMostMessages(t *testing.T) { // CR4: MaxJobs and one more
	plan := grown(api.Small, 2, 255, 4)
	list := messages(api.MaxJobs)
	right := manyOf(t, plan, list)
	for _, p := range pools() {
		got, e := Many(plan, p, list)
		wantLists(t, fmt.Sprint(p), got, e, right)
		got, e = Many(plan, p, list[1:])
		wantLists(t, fmt.Sprint("one less, ", p), got, e, right[1:])
		for _, more := range [][][]byte{messages(api.MaxJobs + 1), make([][]byte, api.MaxJobs+1), make([][]byte, 5*api.MaxJobs)} {
			if got, e := Many(plan, p, more); e != api.ErrLong || len(got) != 0 {
				t.Errorf("%d messages: %d digests, error %d", len(more), len(got), e)
			}
		}
	}
}

// wantRefused asks Hash and Many, with lists that may be and with one that is too long, for one error and nothing beside it.
func wantRefused(t *testing.T, what string, plan api.Tree, p api.Pool, why api.Errno) {
	t.Helper()
	for _, data := range [][]byte{nil, {}, pattern(9)} {
		got, e := Hash(plan, p, data)
		wantNone(t, "Hash, "+what, got, e, why)
	}
	for _, list := range [][][]byte{nil, {}, {nil}, {pattern(9), pattern(3)}, make([][]byte, api.MaxJobs+1)} {
		if got, e := Many(plan, p, list); e != why || len(got) != 0 {
			t.Errorf("Many, %s, %d messages: %x, error %d, want %d", what, len(list), got, e, why)
		}
	}
}

func TestHashAndManyRefuse(t *testing.T) { // CR4: the tree's error, then ErrPool, then ErrLong
	for _, f := range faults() {
		for _, p := range slices.Concat(pools(), noPools()) {
			wantRefused(t, f.what+fmt.Sprint(p), f.tree, p, f.why)
		}
	}
	for _, plan := range []api.Tree{bare(api.Big, 2, 3, 4), greatest(api.Small), least(api.Big)} {
		for _, p := range noPools() {
			wantRefused(t, fmt.Sprint(p), plan, p, api.ErrPool)
		}
	}
	wantRefused(t, "nothing", api.Tree{}, api.Pool{}, api.ErrArg)
}
