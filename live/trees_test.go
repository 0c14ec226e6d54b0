package live

import (
	"fmt"
	"math"
	"testing"

	"quern/api"
	"quern/pool"
	"quern/tree"
)

// lengths are those of messages at which a tree with leaves of four bytes turns: no byte, one, a leaf, one more, several rows.
var lengths = []int{0, 1, 3, 4, 5, 7, 8, 9, 12, 13, 16, 17, 33, 64, 65, 100, 257}

func TestLeavesAndHash(t *testing.T) { // P16.2, G1
	for i, plan := range trees() {
		for _, n := range lengths {
			data := pattern(n)
			leaves, digest := leavesOf(t, plan, data), hashOf(t, plan, data)
			for _, p := range []api.Pool{poolOf(1, 1), poolOf(2, 1), poolOf(5, 3), poolOf(1, api.MaxRoom), poolOf(40, 40)} {
				what := fmt.Sprintf("tree %d, %d bytes, %v", i, n, p)
				got, e := Leaves(plan, p, data)
				wantLists(t, "Leaves, "+what, got, e, leaves)
				d, e := Hash(plan, p, data)
				wantBytes(t, "Hash, "+what, d, e, digest)
			}
		}
	}
}

func TestGreatPools(t *testing.T) { // P16.2 at all edges of a pool, with fewer and more leaves than it holds
	for _, plan := range []api.Tree{grown(api.Big, 3, 255, 4), bare(api.Small, 2, 4, 4)} {
		for _, n := range []int{0, 9, 1000, 4 * (api.MaxWorkers + api.MaxRoom), 4*(api.MaxWorkers+api.MaxRoom) + 1, 6000} {
			data := pattern(n)
			leaves, digest := leavesOf(t, plan, data), hashOf(t, plan, data)
			for _, p := range pools() {
				what := fmt.Sprintf("%d bytes, %v", n, p)
				got, e := Leaves(plan, p, data)
				wantLists(t, "Leaves, "+what, got, e, leaves)
				d, e := Hash(plan, p, data)
				wantBytes(t, "Hash, "+what, d, e, digest)
			}
		}
	}
}

func TestOtherLeaves(t *testing.T) { // P16.2: leaves of one byte, around a block, longer than any message
	for _, k := range kinds {
		z := sizesOf(k)
		for _, leaf := range []uint32{1, uint32(z.block) - 1, uint32(z.block), uint32(z.block) + 1, 1000, math.MaxUint32} {
			for _, plan := range []api.Tree{bare(k, 2, 255, leaf), grown(k, 0, 2, leaf)} {
				for _, n := range []int{0, 1, z.block, z.block + 1, 3 * z.block, 1000, 1001} {
					data := pattern(n)
					got, e := Leaves(plan, poolOf(3, 2), data)
					wantLists(t, fmt.Sprintf("Leaves of %d, %d bytes", leaf, n), got, e, leavesOf(t, plan, data))
					d, e := Hash(plan, poolOf(3, 2), data)
					wantBytes(t, fmt.Sprintf("Hash, leaves of %d, %d bytes", leaf, n), d, e, hashOf(t, plan, data))
				}
			}
		}
	}
}

func TestMoreLeavesThanJobs(t *testing.T) { // P16.2: chapter 15's MaxJobs is no bound of a pool that really runs
	plan := bare(api.Small, 255, 255, 1)
	data := pattern(api.MaxJobs + 1)
	got, e := Leaves(plan, poolOf(4, 4), data)
	wantLists(t, "Leaves", got, e, leavesOf(t, plan, data))
	d, e := Hash(plan, poolOf(4, 4), data)
	wantBytes(t, "Hash", d, e, hashOf(t, plan, data))
	l := make([][]byte, api.MaxJobs+1)
	right := make([][]byte, len(l))
	for i := range l {
		l[i] = pattern(i % 5)
		right[i] = hashOf(t, plan, l[i])
	}
	list, e := Many(plan, poolOf(4, 4), l)
	wantLists(t, "Many", list, e, right)
}

func TestAsPlayed(t *testing.T) { // G1: what really runs tells what a run by picks tells
	for i, plan := range trees() {
		for _, p := range []api.Pool{poolOf(1, 1), poolOf(3, 2), poolOf(9, 5)} {
			data := pattern(61)
			run, e := pool.Play(plan, data, p, []int{5, -3, 2, 2, 7, 1, -1})
			sure(t, "pool.Play", run, e)
			d, e := Hash(plan, p, data)
			wantBytes(t, fmt.Sprintf("tree %d, %v", i, p), d, e, run.Digest)
		}
	}
}

func TestMany(t *testing.T) { // P16.2: of no message, of one, of several, of empty ones, in their order
	for i, plan := range trees() {
		for _, l := range [][][]byte{
			nil, {}, {nil}, {{}}, {nil, {}, nil}, {pattern(9)}, {pattern(9), nil, pattern(4)},
			{pattern(300), pattern(100), pattern(5), pattern(1), nil},
			{pattern(7), pattern(7), pattern(7)},
		} {
			right := [][]byte{}
			for _, data := range l {
				right = append(right, hashOf(t, plan, data))
			}
			for _, p := range []api.Pool{poolOf(1, 1), poolOf(2, 1), poolOf(3, 7), poolOf(api.MaxWorkers, api.MaxRoom)} {
				got, e := Many(plan, p, l)
				wantLists(t, fmt.Sprintf("tree %d, %d messages, %v", i, len(l), p), got, e, right)
			}
		}
	}
}

func TestManyInOrder(t *testing.T) { // P16.2: the first messages take by far the longest
	plan := grown(api.Big, 2, 255, 64)
	var l, right [][]byte
	for i := range 40 {
		l = append(l, pattern((40-i)*(40-i)*10))
		right = append(right, hashOf(t, plan, l[i]))
	}
	for _, p := range pools() {
		got, e := Many(plan, p, l)
		wantLists(t, fmt.Sprint(p), got, e, right)
	}
}

// wantRefused asks all calls that take a tree, at these arguments, for one error and nothing beside it.
func wantRefused(t *testing.T, what string, plan api.Tree, p api.Pool, why api.Errno) {
	t.Helper()
	for _, data := range [][]byte{nil, {}, pattern(9)} {
		if got, e := Leaves(plan, p, data); e != why || len(got) != 0 {
			t.Errorf("Leaves, %s: %x, error %d, want %d", what, got, e, why)
		}
		if got, e := Hash(plan, p, data); e != why || len(got) != 0 {
			t.Errorf("Hash, %s: %x, error %d, want %d", what, got, e, why)
		}
		for _, tries := range append([]int{1, api.MaxTries}, noTries...) {
			if got, broken, e := Shaken(plan, p, tries, []int{9, 9}, data); e != why || len(got) != 0 || len(broken) != 0 {
				t.Errorf("Shaken, %s, %d tries: %x, %v, error %d, want %d", what, tries, got, broken, e, why)
			}
		}
	}
	for _, l := range [][][]byte{nil, {}, {nil}, {pattern(9), pattern(3)}} {
		if got, e := Many(plan, p, l); e != why || len(got) != 0 {
			t.Errorf("Many, %s: %x, error %d, want %d", what, got, e, why)
		}
	}
}

func TestPoolsRefused(t *testing.T) { // ErrPool ahead of shape's error and of ErrArg
	for _, p := range noPools() {
		wantRefused(t, fmt.Sprint(p), bare(api.Big, 2, 3, 4), p, api.ErrPool)
		wantRefused(t, fmt.Sprint(p, ", no tree"), api.Tree{}, p, api.ErrPool)
		for _, f := range faults()[:20] {
			wantRefused(t, fmt.Sprint(p, ", ", f.what), f.tree, p, api.ErrPool)
		}
	}
}

func TestTreesRefused(t *testing.T) { // shape's error ahead of ErrArg; the same as tree's own calls tell
	for _, f := range faults() {
		if _, e := tree.Hash(f.tree, nil); e != f.why {
			t.Fatalf("tree.Hash, %s: error %d, want %d", f.what, e, f.why)
		}
		for _, p := range []api.Pool{poolOf(1, 1), poolOf(api.MaxWorkers, api.MaxRoom)} {
			wantRefused(t, f.what, f.tree, p, f.why)
		}
	}
	wantRefused(t, "no tree", api.Tree{}, poolOf(1, 1), api.ErrArg)
}

func TestEdgesOfTrees(t *testing.T) { // what stands at its end may be
	for _, k := range kinds {
		z := sizesOf(k)
		plan := api.Tree{
			Kind: k, Digest: z.most, Fanout: 255, Depth: 255, Leaf: math.MaxUint32, Inner: z.most,
			Key: rising(z.most), Salt: rising(z.salt), Personal: rising(z.salt),
		}
		d, e := Hash(plan, poolOf(api.MaxWorkers, api.MaxRoom), pattern(20))
		wantBytes(t, "Hash", d, e, hashOf(t, plan, pattern(20)))
	}
}
