package path

import (
	"bytes"
	"fmt"
	"math"
	"math/rand"
	"slices"
	"testing"

	"quern/api"
	"quern/tree"
)

func TestExamples(t *testing.T) { // the chapter's examples
	for _, k := range kinds {
		for leaf, right := range []uint64{2, 2, 1} {
			n, e := Size(plan(k), 9, uint64(leaf))
			wantNumber(t, fmt.Sprintf("Size of leaf %d", leaf), n, e, right)
		}
		data := []byte("abcdefghi")
		rows, e := tree.Rows(plan(k), data)
		wantOK(t, e)
		p, e := Prove(plan(k), data, 0)
		wantPath(t, "Prove of leaf 0", p, e, api.Path{Total: 9, Leaf: 0, Steps: []api.Step{{After: [][]byte{rows[0][1]}}, {After: [][]byte{rows[1][1]}}}})
		p, e = Prove(plan(k), data, 2)
		wantPath(t, "Prove of leaf 2", p, e, api.Path{Total: 9, Leaf: 2, Steps: []api.Step{{}, {Before: [][]byte{rows[1][0]}}}})
		wantErrno(t, "Check", Check(plan(k), p, data[8:], rows[2][0]), api.OK)
		p.Steps[1].Before[0][3] ^= 4
		wantErrno(t, "Check of a digest turned in one bit", Check(plan(k), p, data[8:], rows[2][0]), api.ErrProof)
	}
}

// wantProved asks for the path of one leaf, and for all that stands on it.
func wantProved(t *testing.T, what string, x api.Tree, right built, total, leaf int) {
	t.Helper()
	data := slices.Concat(right.pieces...)
	path := right.path(total, leaf)
	p, e := Prove(x, data, uint64(leaf))
	wantPath(t, "Prove, "+what, p, e, path)
	n, e := Size(x, uint64(total), uint64(leaf))
	wantNumber(t, "Size, "+what, n, e, uint64(len(flat(path))/x.Inner))
	got, e := Root(x, path, right.pieces[leaf])
	want(t, "Root, "+what, got, e, right.root())
	wantErrno(t, "Check, "+what, Check(x, p, right.pieces[leaf], right.root()), api.OK)
	packed := append(head(uint64(total), uint64(leaf)), flat(path)...)
	got, e = Pack(x, p)
	want(t, "Pack, "+what, got, e, packed)
	p, e = Unpack(x, packed)
	wantPath(t, "Unpack, "+what, p, e, path)
}

func TestAtTheEdges(t *testing.T) { // PA1 to PA4: held against trees that are built by the words
	edges(func(what string, x api.Tree, data []byte) {
		right := build(t, x, data)
		for _, leaf := range right.noted() {
			wantProved(t, fmt.Sprintf("%s, leaf %d", what, leaf), x, right, len(data), leaf)
		}
	})
}

func TestEveryLeaf(t *testing.T) { // PA1 to PA4
	for _, k := range kinds {
		for _, x := range []api.Tree{grown(k, 2, 255, 2), bare(k, 3, 3, 2), grown(k, 0, 255, 2), bare(k, 5, 4, 2)} {
			for n := range 40 {
				right := build(t, x, pattern(n))
				for leaf := range right.pieces {
					wantProved(t, fmt.Sprintf("%v, %d bytes, leaf %d", x, n, leaf), x, right, n, leaf)
				}
			}
		}
	}
}

func TestDressed(t *testing.T) { // PA1 to PA4: Digest, Inner, Key, Salt and Personal at their edges
	for _, k := range kinds {
		for _, shaped := range []api.Tree{bare(k, 2, 3, 4), bare(k, 0, 255, 4), bare(k, 3, 255, 4)} {
			for i, x := range dressed(shaped) {
				for _, n := range []int{0, 1, 4, 5, 9, 37, 90} {
					right := build(t, x, pattern(n))
					for _, leaf := range right.noted() {
						wantProved(t, fmt.Sprintf("tree %d of %v, %d bytes, leaf %d", i, shaped, n, leaf), x, right, n, leaf)
					}
				}
			}
		}
	}
}

func TestLongLeaves(t *testing.T) { // PA1 to PA4: leaves of several blocks, and far longer than their message
	for _, k := range kinds {
		for _, leaf := range []uint32{64, 65, 128, 129, 1000, math.MaxUint32 - 1, math.MaxUint32} {
			for _, n := range []int{0, 1, 128, 129, 1000, 1001} {
				for _, x := range []api.Tree{bare(k, 2, 255, leaf), grown(k, 3, 4, leaf)} {
					right := build(t, x, pattern(n))
					wantProved(t, fmt.Sprintf("leaf %d, %d bytes", leaf, n), x, right, n, 0)
					wantProved(t, fmt.Sprintf("leaf %d, %d bytes, the last", leaf, n), x, right, n, len(right.pieces)-1)
				}
			}
		}
	}
}

func TestManyLeaves(t *testing.T) { // PA1 to PA4: places that need more than one byte, and a root with very many children
	for _, k := range kinds {
		for _, x := range []api.Tree{bare(k, 255, 255, 1), bare(k, 2, 2, 1), bare(k, 2, 255, 1)} {
			n := 1<<12 + 259
			right := build(t, x, pattern(n))
			for _, leaf := range []int{0, 255, 256, n - 1} {
				wantProved(t, fmt.Sprintf("%v, leaf %d", x, leaf), x, right, n, leaf)
			}
		}
	}
}

func TestPathsLieInRows(t *testing.T) { // PA1: each Before and After is what tree.Rows tells there, and Size how many there are
	edges(func(what string, x api.Tree, data []byte) {
		rows, e := tree.Rows(x, data)
		wantOK(t, e)
		for _, leaf := range []int{0, len(rows[0]) / 2, len(rows[0]) - 1} {
			p, e := Prove(x, data, uint64(leaf))
			wantOK(t, e)
			if p.Total != uint64(len(data)) || p.Leaf != uint64(leaf) || len(p.Steps) != len(rows)-1 {
				t.Fatalf("%s, leaf %d: %x", what, leaf, p)
			}
			on, sum := leaf, 0
			for row, s := range p.Steps {
				from, to := on-len(s.Before), on+1+len(s.After)
				if from < 0 || to > len(rows[row]) || !sameLists(s.Before, rows[row][from:on]) || !sameLists(s.After, rows[row][on+1:to]) {
					t.Errorf("%s, leaf %d, row %d: %x", what, leaf, row, s)
				}
				if len(rows[row+1]) > 1 {
					on /= x.Fanout
				} else {
					on = 0
				}
				sum += len(s.Before) + len(s.After)
			}
			n, e := Size(x, uint64(len(data)), uint64(leaf))
			wantNumber(t, what, n, e, uint64(sum))
		}
	})
}

// farTotals are numbers of bytes up to the greatest, around full rows of a tree.
func farTotals(x api.Tree) []uint64 {
	list := []uint64{1 << 32, 1<<48 - 1, 1 << 48, 1<<48 + 1, 1<<63 - 1, 1 << 63, 1<<63 + 1, mostBytes - uint64(x.Leaf), mostBytes - 2, mostBytes - 1, mostBytes}
	for full := uint64(x.Leaf); x.Fanout > 0 && full < mostBytes/uint64(x.Fanout); {
		full *= uint64(x.Fanout)
		list = append(list, full, full+1)
	}
	return list
}

func TestFarSizes(t *testing.T) { // PA1: a number alone, up to the greatest totals; ErrLong, where a Small tree has more than 2^48 leaves; ErrNone behind the last leaf
	for _, k := range kinds {
		for _, fanout := range []int{0, 2, 3, 254, 255} {
			for _, depth := range []int{2, 3, 8, 64, 255} {
				for _, leaf := range []uint32{1, 3, 65535, 65536, math.MaxUint32} {
					x := grown(k, fanout, depth, leaf)
					for _, total := range farTotals(x) {
						wantFarSize(t, x, total)
					}
				}
			}
		}
	}
}

func wantFarSize(t *testing.T, x api.Tree, total uint64) {
	t.Helper()
	leaves := farLeaves(x, total)
	long := x.Kind == api.Small && leaves > 1<<48
	for _, leaf := range []uint64{0, 1, leaves / 3, leaves / 2, leaves - 2, leaves - 1, leaves, mostBytes} {
		n, e := Size(x, total, leaf)
		what := fmt.Sprintf("Size of %v, %d bytes, leaf %d", x, total, leaf)
		right := uint64(0)
		switch {
		case long && (n != 0 || e != api.ErrLong):
			t.Errorf("%s: %d, error %d, want ErrLong", what, n, e)
		case !long && leaf >= leaves && (n != 0 || e != api.ErrNone):
			t.Errorf("%s: %d, error %d, want ErrNone", what, n, e)
		case !long && leaf < leaves:
			for _, turn := range farTurns(x, total, leaf) {
				right += turn.before + turn.after
			}
			wantNumber(t, what, n, e, right)
		}
	}
}

func TestToldSizes(t *testing.T) { // PA1: worked out by hand
	for _, c := range []struct {
		fanout, depth int
		leaf          uint32
		total, at     uint64
		right         uint64
	}{
		{2, 255, 4, 0, 0, 0},
		{2, 255, 4, 4, 0, 0},
		{2, 255, 4, 5, 0, 1},
		{2, 255, 4, 5, 1, 1},
		{2, 255, 4, 16, 3, 2},
		{2, 255, 4, 17, 3, 3},
		{2, 255, 4, 17, 4, 1},
		{2, 2, 4, 17, 4, 4},
		{2, 3, 4, 17, 4, 2},
		{2, 3, 4, 17, 0, 3},
		{3, 255, 1, 27, 13, 6},
		{255, 255, 1, 255, 7, 254},
		{255, 255, 1, 256, 7, 255},
		{255, 255, 1, 256, 255, 1},
		{0, 2, 1, mostBytes, 0, mostBytes - 1},
		{0, 255, 1, mostBytes, mostBytes - 1, mostBytes - 1},
		{2, 2, 1, mostBytes, 1 << 40, mostBytes - 1},
		{2, 3, 1, mostBytes, 0, 1 << 63},
		{2, 3, 1, mostBytes, mostBytes - 1, 1<<63 - 1},
		{2, 255, 1, mostBytes, 0, 64},
		{2, 255, 1, mostBytes, mostBytes - 1, 63},
		{0, 2, 2, mostBytes, 5, 1<<63 - 1},
		{0, 2, math.MaxUint32, mostBytes, 1 << 32, 1 << 32},
	} {
		x := bare(api.Big, c.fanout, c.depth, c.leaf)
		n, e := Size(x, c.total, c.at)
		wantNumber(t, fmt.Sprint(c), n, e, c.right)
	}
}

// farCases visits trees with far totals whose paths have few digests and short pieces.
func farCases(visit func(what string, x api.Tree, p api.Path, piece []byte)) {
	for _, k := range kinds {
		for _, fanout := range []int{2, 3, 255} {
			for _, leaf := range []uint32{1, 3, 65536} {
				for i, x := range []api.Tree{bare(k, fanout, 255, leaf), grown(k, fanout, 255, leaf)} {
					for _, total := range []uint64{1<<48 - 1, 1 << 48, 1<<48 + 1, 1<<63 + 1, mostBytes - 1, mostBytes} {
						leaves := farLeaves(x, total)
						if k == api.Small && leaves > 1<<48 {
							continue
						}
						for _, at := range []uint64{0, leaves / 3, leaves - 1} {
							size := min(uint64(leaf), total-at*uint64(leaf))
							p, _ := madeUp(x, total, at)
							visit(fmt.Sprintf("kind %d, fanout %d, leaf %d, tree %d, %d bytes, leaf %d", k, fanout, leaf, i, total, at), x, p, pattern(int(size)))
						}
					}
				}
			}
		}
	}
}

func TestFarRoots(t *testing.T) { // PA2, PA3: paths of messages that are far too long to be there
	farCases(func(what string, x api.Tree, p api.Path, piece []byte) {
		right := farRoot(t, x, p, piece)
		got, e := Root(x, p, piece)
		want(t, "Root, "+what, got, e, right)
		wantErrno(t, "Check, "+what, Check(x, p, piece, right), api.OK)
		wantErrno(t, "Check of another root, "+what, Check(x, p, piece, right[1:]), api.ErrProof)
		wantErrno(t, "Check of a longer piece, "+what, Check(x, p, append(piece, 0), right), api.ErrForm)
		packed := append(head(p.Total, p.Leaf), flat(p)...)
		got, e = Pack(x, p)
		want(t, "Pack, "+what, got, e, packed)
		back, e := Unpack(x, packed)
		wantPath(t, "Unpack, "+what, back, e, p)
	})
}

func TestFaultsComeFirst(t *testing.T) { // P2: Valid's error ahead of all others, in each call
	for _, f := range faults() {
		for _, leaf := range []uint64{0, 1, mostBytes} {
			p, e := Prove(f.tree, pattern(9), leaf)
			wantNoPath(t, "Prove, "+f.what, p, e, f.why)
			p, e = Prove(f.tree, nil, leaf)
			wantNoPath(t, "Prove of no bytes, "+f.what, p, e, f.why)
			for _, total := range []uint64{0, 9, 1 << 60, mostBytes} {
				n, e := Size(f.tree, total, leaf)
				if n != 0 || e != f.why {
					t.Errorf("Size, %s: %d, error %d, want %d", f.what, n, e, f.why)
				}
				for _, steps := range [][]api.Step{nil, {{}}, {{After: [][]byte{pattern(16)}}, {}}} {
					wantRefused(t, f.what, f.tree, api.Path{Total: total, Leaf: leaf, Steps: steps}, pattern(4), f.why)
				}
				for _, n := range []int{0, 15, 16, 17, 1000} {
					p, e = Unpack(f.tree, append(head(total, leaf), make([]byte, 1000)...)[:n])
					wantNoPath(t, "Unpack, "+f.what, p, e, f.why)
				}
			}
		}
	}
	wantRefused(t, "no tree", api.Tree{}, api.Path{}, nil, api.ErrArg)
}

func TestSmallIsBounded(t *testing.T) { // ErrLong ahead of ErrNone, ErrForm and ErrShort; a Big tree beside it, and just 2^48 leaves, are as others
	for _, fanout := range []int{0, 2, 3, 255} {
		for _, depth := range []int{2, 3, 255} {
			for _, leaf := range []uint32{1, 2, 65535} {
				small, great := grown(api.Small, fanout, depth, leaf), grown(api.Big, fanout, depth, leaf)
				bound := uint64(leaf) << 48
				for _, total := range []uint64{bound + 1, bound + uint64(leaf), mostBytes} {
					leaves := farLeaves(great, total)
					for _, at := range []uint64{0, 1 << 48, leaves - 1, leaves, mostBytes} {
						wantEach(t, small, total, at, api.ErrLong, api.ErrLong, api.ErrLong)
					}
					for _, at := range []uint64{0, 1 << 48, leaves - 1} {
						wantEach(t, great, total, at, api.OK, api.ErrForm, api.ErrShort)
					}
					for _, at := range []uint64{leaves, mostBytes} {
						wantEach(t, great, total, at, api.ErrNone, api.ErrNone, api.ErrNone)
					}
				}
				wantEach(t, small, bound, 1<<48-1, api.OK, api.ErrForm, api.ErrShort)
				wantEach(t, small, bound, 1<<48, api.ErrNone, api.ErrNone, api.ErrNone)
			}
		}
	}
}

// wantEach asks Size, the calls that are handed a path (without its steps), and Unpack (of a head and one byte).
func wantEach(t *testing.T, x api.Tree, total, leaf uint64, size, form, short api.Errno) {
	t.Helper()
	what := fmt.Sprintf("kind %d, fanout %d, depth %d, leaf %d, %d bytes, leaf %d", x.Kind, x.Fanout, x.Depth, x.Leaf, total, leaf)
	n, e := Size(x, total, leaf)
	if e != size || e != api.OK && n != 0 {
		t.Errorf("Size, %s: %d, error %d, want error %d", what, n, e, size)
	}
	wantRefused(t, what, x, api.Path{Total: total, Leaf: leaf}, pattern(1), form)
	p, e := Unpack(x, append(head(total, leaf), 1))
	wantNoPath(t, "Unpack, "+what, p, e, short)
}

func TestNoLeaf(t *testing.T) { // ErrNone: just behind the last leaf and far behind it, ahead of ErrForm and ErrShort
	edges(func(what string, x api.Tree, data []byte) {
		total := uint64(len(data))
		leaves := farLeaves(x, total)
		fitting, e := Prove(x, data, leaves-1)
		wantOK(t, e)
		for _, leaf := range []uint64{leaves, leaves + 1, leaves + 255, 1 << 32, 1 << 48, 1 << 63, mostBytes} {
			p, e := Prove(x, data, leaf)
			wantNoPath(t, "Prove, "+what, p, e, api.ErrNone)
			wantEach(t, x, total, leaf, api.ErrNone, api.ErrNone, api.ErrNone)
			p = fitting
			p.Leaf = leaf
			wantRefused(t, what, x, p, nil, api.ErrNone)
			p, e = Unpack(x, append(head(total, leaf), flat(fitting)...))
			wantNoPath(t, "Unpack, "+what, p, e, api.ErrNone)
			p, e = Unpack(x, head(total, leaf))
			wantNoPath(t, "Unpack of a head, "+what, p, e, api.ErrNone)
			p, e = Unpack(x, head(total, leaf)[:15])
			wantNoPath(t, "Unpack of less, "+what, p, e, api.ErrShort)
		}
	})
}

func TestAnotherPiece(t *testing.T) { // PA4: Root is that of the message with that piece in the leaf's place
	r := rand.New(rand.NewSource(11))
	edges(func(what string, x api.Tree, data []byte) {
		leaves := int(farLeaves(x, uint64(len(data))))
		leaf := r.Intn(leaves)
		from := leaf * int(x.Leaf)
		to := min(len(data), from+int(x.Leaf))
		p, e := Prove(x, data, uint64(leaf))
		wantOK(t, e)
		old, e := tree.Hash(x, data)
		wantOK(t, e)
		wantErrno(t, "Check, "+what, Check(x, p, data[from:to], old), api.OK)
		piece := make([]byte, to-from)
		r.Read(piece)
		changed := slices.Concat(data[:from], piece, data[to:])
		right, e := tree.Hash(x, changed)
		wantOK(t, e)
		got, e := Root(x, p, piece)
		want(t, what, got, e, right)
		wantErrno(t, "Check of another piece, "+what, Check(x, p, piece, right), api.OK)
		if !bytes.Equal(old, right) {
			wantErrno(t, "Check of another piece under the old root, "+what, Check(x, p, piece, old), api.ErrProof)
		}
	})
}

func TestByChance(t *testing.T) { // PA1 to PA4
	r := rand.New(rand.NewSource(1))
	for range 1500 {
		k := kinds[r.Intn(2)]
		z := sizesOf(k)
		x := api.Tree{
			Kind: k, Digest: 1 + r.Intn(z.most), Inner: 1 + r.Intn(z.most), Depth: 2 + r.Intn(5), Leaf: 1 + uint32(r.Intn(9)),
			Fanout: 2 + r.Intn(4), Key: pattern(r.Intn(z.most + 1)),
		}
		switch r.Intn(4) {
		case 0:
			x.Fanout = 0
		case 1:
			x.Fanout, x.Depth = 2+r.Intn(254), 2+r.Intn(254)
		}
		if r.Intn(2) == 0 {
			x.Salt, x.Personal = pattern(z.salt), rising(z.salt)
		}
		n := r.Intn(200)
		right := build(t, x, pattern(n))
		leaf := r.Intn(len(right.pieces))
		wantProved(t, fmt.Sprintf("%v, %d bytes, leaf %d", x, n, leaf), x, right, n, leaf)
	}
}
