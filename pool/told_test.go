package pool

import (
	"encoding/hex"
	"fmt"
	"strings"
	"testing"

	"quern/api"
)

func TestExamples(t *testing.T) { // the chapter's, and the document's
	if n, e := Bound(1, poolOf(1, 1)); n != 54 || e != api.OK {
		t.Errorf("Bound: %d, error %d", n, e)
	}
	if n, e := Buffers(poolOf(1, 1)); n != 2 || e != api.OK {
		t.Errorf("Buffers: %d, error %d", n, e)
	}
	plan := bare(api.Big, 2, 255, 4)
	sums := leavesOf(t, plan, pattern(12))
	wantNoFold(t, "a leaf twice", plan, 12, []int{0, 2, 2}, sums, api.ErrForm)
	for _, picks := range [][]int{nil, {1, 2, 3}, {-1, -1, -1, -1}} {
		if r := playOf(t, plan, pattern(3), poolOf(1, 1), picks); r.Steps != 54 {
			t.Errorf("picks %v: %d steps", picks, r.Steps)
		}
	}
}

// toldRuns are runs over pattern(n) by bursts of a seed, worked out by another program.
func toldRuns() []struct {
	tree          api.Tree
	n             int
	pool          api.Pool
	seed, picks   int
	steps, most   int
	order, digest string
} {
	return []struct {
		tree          api.Tree
		n             int
		pool          api.Pool
		seed, picks   int
		steps, most   int
		order, digest string
	}{
		{api.Tree{Kind: api.Big, Digest: 32, Fanout: 2, Depth: 3, Leaf: 4, Inner: 16}, 9, api.Pool{Workers: 1, Queue: 1}, 1, 0, 84, 1, "0 1 2", "a92011b2b4989cff820a5ac928dc187b5f3a4894173cebc52476cb616f77bc71"},
		{api.Tree{Kind: api.Big, Digest: 32, Fanout: 2, Depth: 3, Leaf: 4, Inner: 16}, 9, api.Pool{Workers: 2, Queue: 1}, 3, 96, 96, 1, "0 1 2", "a92011b2b4989cff820a5ac928dc187b5f3a4894173cebc52476cb616f77bc71"},
		{api.Tree{Kind: api.Big, Digest: 64, Fanout: 0, Depth: 2, Leaf: 10, Inner: 64}, 77, api.Pool{Workers: 3, Queue: 2}, 3, 187, 187, 2, "0 1 2 3 5 6 7 4", "58b5349bc6bee99875a6ec2e74fe3ef4b5a5449cd81ef3c4b4f63ea5e215b4f416766602b419e3f16dd3a58715d345af04984ed8236d8082d2ba079d7b9b24c3"},
		{api.Tree{Kind: api.Big, Digest: 16, Fanout: 3, Depth: 255, Leaf: 1, Inner: 8}, 20, api.Pool{Workers: 4, Queue: 1}, 4, 100, 375, 1, "0 1 2 3 4 5 6 7 8 9 10 11 12 13 14 15 16 17 18 19", "860edeb19e9899ac275d83470f9b99d1"},
		{api.Tree{Kind: api.Big, Digest: 63, Fanout: 2, Depth: 255, Leaf: 1, Inner: 32}, 30, api.Pool{Workers: 20, Queue: 10}, 5, 2600, 753, 7, "0 1 2 3 4 5 6 7 8 9 10 12 13 14 15 16 17 18 11 19 21 24 23 20 22 25 26 27 28 29", "b8f4695c6b973ab68d6465e03a19f6d258e223812a13ec12199d773c2d67cdc96013300a22f9ce4c5a39700b7ba22da8c68dbfa61c3947b1b508f8db53032e"},
		{api.Tree{Kind: api.Small, Digest: 32, Fanout: 2, Depth: 9, Leaf: 2, Inner: 8}, 7, api.Pool{Workers: 3, Queue: 2}, 6, 0, 127, 1, "0 1 2 3", "ff26f08ce356cce11eef9d8f3ffc79be1965169ef26ef66fca208e8fcff0bb2f"},
		{api.Tree{Kind: api.Small, Digest: 32, Fanout: 2, Depth: 255, Leaf: 3, Inner: 32}, 40, api.Pool{Workers: 5, Queue: 3}, 7, 150, 305, 1, "1 0 2 3 4 5 6 7 8 9 10 11 12 13", "ccfa004a65c841ba47d22d477b94b4cbc0677ecd8a4807778121c5e4b00d776c"},
		{api.Tree{Kind: api.Small, Digest: 32, Fanout: 2, Depth: 255, Leaf: 3, Inner: 20}, 40, api.Pool{Workers: 5, Queue: 3}, 8, 500, 305, 1, "0 1 2 3 4 5 6 7 8 9 10 11 12 13", "7a3fc198a9e61c3a6dc05a563c3679c4d529ce619ee90d382b0b5207ab754e55"},
		{api.Tree{Kind: api.Small, Digest: 20, Fanout: 4, Depth: 4, Leaf: 2, Inner: 20}, 61, api.Pool{Workers: 8, Queue: 40}, 9, 900, 744, 3, "0 2 3 4 6 5 7 8 9 10 1 11 12 13 14 15 16 17 18 19 20 21 22 23 24 25 26 27 28 29 30", "f2da0684d0f761b82cc6bb316368d1bf5b3243de"},
		{api.Tree{Kind: api.Small, Digest: 32, Fanout: 255, Depth: 2, Leaf: 8, Inner: 32}, 0, api.Pool{Workers: 2, Queue: 2}, 10, 30, 70, 1, "0", "9e2250030932c8cec4b81fca0850589113ceea3fa4f625bbd0eeb652b2781550"},
	}
}

func TestToldRuns(t *testing.T) { // PO3
	for i, w := range toldRuns() {
		c := chance(w.seed)
		r := playOf(t, w.tree, pattern(w.n), w.pool, c.bursts(w.picks))
		order := strings.Trim(fmt.Sprint(r.Order), "[]")
		if r.End != api.EndDone || r.Steps != w.steps || r.Most != w.most || order != w.order || hex.EncodeToString(r.Digest) != w.digest {
			t.Errorf("run %d: %v, digest %x", i, r, r.Digest)
		}
	}
}
