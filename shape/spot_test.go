package shape

import (
	"fmt"
	"math"
	"math/big"
	"math/rand"
	"testing"

	"quern/api"
	"quern/param"
)

// fewNodes are trees and numbers of bytes whose nodes can all be gone through.
func fewNodes(visit func(what string, tree api.Tree, total uint64)) {
	for _, k := range kinds {
		for _, fanout := range []int{0, 2, 3, 4, 255} {
			for _, depth := range []int{2, 3, 4, 5, 255} {
				for _, leaf := range []uint32{1, 2, 4, 7} {
					tree := grown(k, fanout, depth, leaf)
					size := uint64(leaf)
					for _, total := range []uint64{0, 1, size - 1, size, size + 1, 2 * size, 3*size - 1, 4*size + 1, 8 * size, 9 * size, 16*size + 1, 27 * size, 64 * size, 81*size + 1, 255 * size, 255*size + 1} {
						visit(fmt.Sprintf("%v, %d bytes", tree, total), tree, total)
					}
				}
			}
		}
	}
}

func TestSpotOfAll(t *testing.T) { // SH3: every node of many trees
	fewNodes(func(what string, tree api.Tree, total uint64) {
		for row, spots := range rightSpots(tree, total) {
			for at, right := range spots {
				s, e := Spot(tree, total, row, uint64(at))
				wantSpot(t, what, s, e, right)
			}
		}
	})
}

func TestParentOfAll(t *testing.T) { // SH3, SH5: every node is a child of its Parent and of no other
	fewNodes(func(what string, tree api.Tree, total uint64) {
		all := rightSpots(tree, total)
		for row, spots := range all[1:] {
			for at, s := range spots {
				for child := s.From; child < s.To; child++ {
					n, e := Parent(tree, total, row, child)
					wantNumber(t, what, n, e, uint64(at))
				}
			}
		}
		if n, e := Parent(tree, total, len(all)-1, 0); n != 0 || e != api.ErrNone {
			t.Errorf("%s: the root's Parent: %d %d", what, n, e)
		}
	})
}

func TestParamsOfAll(t *testing.T) { // SH3: every node's parameters, which param takes
	fewNodes(func(what string, tree api.Tree, total uint64) {
		for row, spots := range rightSpots(tree, total) {
			for at := range spots {
				p, e := Params(tree, total, row, uint64(at))
				wantParams(t, what, p, e, api.Params{
					Digest: tree.Digest, Key: 5, Fanout: tree.Fanout, Depth: tree.Depth, Leaf: tree.Leaf,
					Offset: uint64(at), NodeDepth: row, Inner: tree.Inner, Salt: tree.Salt, Personal: tree.Personal,
				})
				wantErrno(t, what, param.Check(tree.Kind, p), api.OK)
			}
		}
	})
}

func TestNoSuchNode(t *testing.T) { // SH3, P1, P2, P6: rows and places that are not there
	fewNodes(func(what string, tree api.Tree, total uint64) {
		rows := fair(tree, total)
		for _, row := range []int{math.MinInt, -256, -2, -1, len(rows), len(rows) + 1, 254, 255, 256, math.MaxInt} {
			if row >= 0 && row < len(rows) {
				continue
			}
			for _, at := range []uint64{0, 1, mostBytes} {
				wantNothing(t, fmt.Sprintf("%s, row %d", what, row), tree, total, row, at, api.ErrNone)
			}
		}
		for row, nodes := range rows {
			for _, at := range []uint64{nodes, nodes + 1, 1 << 32, 1 << 48, 1 << 63, mostBytes} {
				if at >= nodes {
					wantNothing(t, fmt.Sprintf("%s, row %d, place %d", what, row, at), tree, total, row, at, api.ErrNone)
				}
			}
		}
	})
}

func TestRowsCoverWhatIsBelow(t *testing.T) { // SH5: told by the calls alone
	fewNodes(func(what string, tree api.Tree, total uint64) {
		rows, e := Rows(tree, total)
		wantErrno(t, what, e, api.OK)
		below := total
		for row, nodes := range rows {
			next := uint64(0)
			for at := range nodes {
				s, e := Spot(tree, total, row, at)
				if e != api.OK || s.From != next || s.To < s.From || s.To == s.From && total != 0 {
					t.Fatalf("%s: row %d, place %d: %v %d, want it to go on at %d", what, row, at, s, e, next)
				}
				next = s.To
			}
			if next != below {
				t.Errorf("%s: row %d ends at %d, want %d", what, row, next, below)
			}
			below = nodes
		}
		if below != 1 {
			t.Errorf("%s: the last row has %d nodes", what, below)
		}
	})
}

// greatTrees are trees with great numbers of bytes: with full rows and one more, and the most.
func greatTrees(visit func(tree api.Tree, total uint64)) {
	for _, k := range kinds {
		for _, fanout := range []int{0, 2, 3, 255} {
			for _, depth := range []int{2, 3, 65, 255} {
				for _, leaf := range []uint32{1, 3, 1 << 16, mostLeaf} {
					tree := grown(k, fanout, depth, leaf)
					for _, total := range []uint64{1 << 48, 1<<48 + 1, 1 << 63, mostBytes - 1, mostBytes} {
						if !refused(tree, total) {
							visit(tree, total)
						}
					}
				}
			}
		}
	}
}

func TestGreatSpots(t *testing.T) { // SH3, P6: first, middle and last nodes of great rows, held against numbers without a bound
	greatTrees(func(tree api.Tree, total uint64) {
		rows := fair(tree, total)
		for row, nodes := range rows {
			for _, at := range []uint64{0, nodes / 2, nodes - 2, nodes - 1} {
				if at < nodes {
					wantGreatNode(t, tree, total, rows, row, at)
				}
			}
			for _, at := range []uint64{nodes, mostBytes} {
				if at >= nodes {
					wantNothing(t, "past the end", tree, total, row, at, api.ErrNone)
				}
			}
		}
		wantNothing(t, "above the root", tree, total, len(rows), 0, api.ErrNone)
		wantNothing(t, "below the leaves", tree, total, -1, 0, api.ErrNone)
	})
}

func TestGreatSpotsByChance(t *testing.T) { // SH3: likewise, of trees, numbers and places by chance
	r := rand.New(rand.NewSource(10))
	for range 20000 {
		tree, total := byChance(r)
		if refused(tree, total) {
			continue
		}
		rows := fair(tree, total)
		row := r.Intn(len(rows))
		wantGreatNode(t, tree, total, rows, row, r.Uint64()%rows[row])
	}
}

// wantGreatNode asks for one node's spot, parent and parameters.
func wantGreatNode(t *testing.T, tree api.Tree, total uint64, rows []uint64, row int, at uint64) {
	t.Helper()
	what := fmt.Sprintf("%v, %d bytes, row %d, place %d", tree, total, row, at)
	root := row == len(rows)-1
	below, each := total, uint64(tree.Leaf)
	if row > 0 {
		below, each = rows[row-1], uint64(tree.Fanout)
	}
	from, to := uint64(0), below
	if !root {
		start := new(big.Int).Mul(new(big.Int).SetUint64(at), new(big.Int).SetUint64(each))
		end := new(big.Int).Add(start, new(big.Int).SetUint64(each))
		from = start.Uint64()
		if end.Cmp(new(big.Int).SetUint64(below)) < 0 {
			to = end.Uint64()
		}
	}
	s, e := Spot(tree, total, row, at)
	wantSpot(t, "Spot of "+what, s, e, api.Spot{Row: row, At: at, From: from, To: to, Last: at+1 == rows[row], Root: root})
	p, e := Params(tree, total, row, at)
	wantParams(t, "Params of "+what, p, e, api.Params{
		Digest: tree.Digest, Key: len(tree.Key), Fanout: tree.Fanout, Depth: tree.Depth, Leaf: tree.Leaf,
		Offset: at, NodeDepth: row, Inner: tree.Inner, Salt: tree.Salt, Personal: tree.Personal,
	})
	wantErrno(t, "param.Check of "+what, param.Check(tree.Kind, p), api.OK)
	n, e := Parent(tree, total, row, at)
	if root {
		if n != 0 || e != api.ErrNone {
			t.Errorf("the root's Parent of %s: %d %d", what, n, e)
		}
		return
	}
	if e != api.OK {
		t.Errorf("Parent of %s: error %d", what, e)
		return
	}
	above, e := Spot(tree, total, row+1, n)
	if e != api.OK || at < above.From || at >= above.To {
		t.Errorf("Parent of %s: %d, whose children are %v, error %d", what, n, above, e)
	}
}

func TestOneLeaf(t *testing.T) { // SH5: a tree of one leaf has two nodes
	for _, tree := range trees() {
		for _, total := range []uint64{0, 1, uint64(tree.Leaf)} {
			n, e := Nodes(tree, total)
			wantNumber(t, "Nodes", n, e, 2)
			s, e := Spot(tree, total, 0, 0)
			wantSpot(t, "the leaf", s, e, api.Spot{To: total, Last: true})
			s, e = Spot(tree, total, 1, 0)
			wantSpot(t, "the root", s, e, api.Spot{Row: 1, To: 1, Last: true, Root: true})
			n, e = Parent(tree, total, 0, 0)
			wantNumber(t, "the leaf's Parent", n, e, 0)
		}
	}
}

// grains are salts and personals, and what Params tells of them.
func grains(n int) []struct{ given, told []byte } {
	first, last := make([]byte, n), make([]byte, n)
	first[0], last[n-1] = 1, 1
	return []struct{ given, told []byte }{
		{nil, nil},
		{[]byte{}, nil},
		{make([]byte, n), nil},
		{rising(n), rising(n)},
		{first, first},
		{last, last},
	}
}

func TestParamsOfGrains(t *testing.T) { // SH3, P3: Salt and Personal of none, of noughts and of others
	for _, k := range kinds {
		z := sizesOf(k)
		for _, salt := range grains(z.salt) {
			for _, personal := range grains(z.salt) {
				tree := with(k, func(t *api.Tree) { t.Salt, t.Personal = salt.given, personal.given })
				for _, n := range []struct {
					row int
					at  uint64
				}{{0, 0}, {0, 2}, {1, 1}, {2, 0}} {
					p, e := Params(tree, 9, n.row, n.at)
					wantParams(t, fmt.Sprintf("salt %x, personal %x", salt.given, personal.given), p, e, api.Params{
						Digest: z.most - 1, Key: 5, Fanout: 2, Depth: 255, Leaf: 4,
						Offset: n.at, NodeDepth: n.row, Inner: z.most / 2, Salt: salt.told, Personal: personal.told,
					})
				}
			}
		}
	}
}

func TestParamsOfKeys(t *testing.T) { // SH3, P3: Key is the tree's key's length, at every node
	for _, k := range kinds {
		for _, n := range []int{0, 1, 31, sizesOf(k).most} {
			for _, key := range [][]byte{rising(n), make([]byte, n)} {
				tree := with(k, func(t *api.Tree) { t.Key = key })
				for row := range 3 {
					p, e := Params(tree, 9, row, 0)
					if p.Key != n || e != api.OK {
						t.Errorf("a key of %d bytes, row %d: %d %d", n, row, p.Key, e)
					}
				}
			}
		}
		tree := with(k, func(t *api.Tree) { t.Key = nil })
		if p, e := Params(tree, 9, 0, 0); p.Key != 0 || e != api.OK {
			t.Errorf("no key: %d %d", p.Key, e)
		}
	}
}

func TestWhatIsHandedIn(t *testing.T) { // P4, P5: it stays as it was and is not kept; answers are new memory
	for _, k := range kinds {
		tree := grown(k, 2, 255, 4)
		var stills [3]func() bool
		tree.Key, stills[0] = roomy(tree.Key)
		tree.Salt, stills[1] = roomy(tree.Salt)
		tree.Personal, stills[2] = roomy(tree.Personal)
		askAll(tree)
		first, e := Params(tree, 9, 0, 1)
		wantErrno(t, "Params", e, api.OK)
		second, e := Params(tree, 9, 0, 1)
		wantErrno(t, "Params", e, api.OK)
		spoil(first.Salt)
		wantParams(t, "Params, its Salt spoiled", api.Params{Personal: first.Personal}, e, api.Params{Personal: tree.Personal})
		spoil(first.Personal)
		wantParams(t, "Params, asked ahead of spoiling", second, e, paramsOf(tree))
		third, e := Params(tree, 9, 0, 1)
		wantParams(t, "Params, asked behind it", third, e, paramsOf(tree))
		for i, still := range stills {
			if !still() {
				t.Errorf("kind %d: argument %d has changed", k, i)
			}
		}
		right := grown(k, 2, 255, 4)
		spoil(tree.Key)
		spoil(tree.Salt)
		spoil(tree.Personal)
		wantParams(t, "Params, what was handed in spoiled", third, e, paramsOf(right))
	}
}

// askAll makes each call once.
func askAll(tree api.Tree) {
	Valid(tree)
	Leaves(tree, 9)
	Rows(tree, 9)
	Nodes(tree, 9)
	Spot(tree, 9, 1, 1)
	Parent(tree, 9, 0, 1)
	Params(tree, 9, 0, 1)
	Most(tree, 3)
}

// paramsOf tells what Params answers of the second leaf.
func paramsOf(t api.Tree) api.Params {
	return api.Params{Digest: t.Digest, Key: len(t.Key), Fanout: t.Fanout, Depth: t.Depth, Leaf: t.Leaf, Offset: 1, Inner: t.Inner, Salt: t.Salt, Personal: t.Personal}
}
