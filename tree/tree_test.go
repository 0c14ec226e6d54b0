package tree

import (
	"bytes"
	"fmt"
	"math"
	"slices"
	"testing"

	"quern/api"
	"quern/node"
	"quern/param"
	"quern/shape"
)

func TestExamples(t *testing.T) { // the chapter's examples
	nine := []byte("123456789")
	calls, e := Calls(plan(), nine)
	wantOK(t, e)
	if len(calls) != 6 {
		t.Fatalf("Calls: %d", len(calls))
	}
	p, e := param.Decode(api.Big, calls[0].Block, false)
	if e != api.OK || p.Offset != 0 || p.NodeDepth != 0 || calls[0].Last || calls[0].Out != 16 || string(calls[0].Data) != "1234" {
		t.Errorf("the first call: %v, error %d, %v", p, e, calls[0])
	}
	p, e = param.Decode(api.Big, calls[5].Block, false)
	if e != api.OK || p.Offset != 0 || p.NodeDepth != 2 || !calls[5].Last || calls[5].Out != 32 || len(calls[5].Data) != 32 {
		t.Errorf("the last call: %v, error %d, %v", p, e, calls[5])
	}
	rows, e := Rows(plan(), nine)
	wantOK(t, e)
	if len(rows) != 3 || len(rows[0]) != 3 || len(rows[1]) != 2 || len(rows[2]) != 1 {
		t.Errorf("Rows: %x", rows)
	}
	d, e := Fold(plan(), 9, rows[0][:2])
	wantNo(t, "Fold of two", d, e, api.ErrShape)
	empty, e := Rows(plan(), nil)
	if e != api.OK || len(empty) != 2 || len(empty[0]) != 1 || len(empty[1]) != 1 {
		t.Errorf("Rows of no bytes: %x, error %d", empty, e)
	}
}

// wantTree asks all functions but New of one tree and message, and holds them against the tree that is built by the words.
func wantTree(t *testing.T, what string, tree api.Tree, data []byte) {
	t.Helper()
	right := build(t, tree, data)
	digest, e := Hash(tree, data)
	want(t, "Hash, "+what, digest, e, right.digest())
	rows, e := Rows(tree, data)
	wantRows(t, "Rows, "+what, rows, e, right.outputs)
	calls, e := Calls(tree, data)
	wantCalls(t, "Calls, "+what, calls, e, right.allCalls())
	leaves, e := Leaves(tree, data)
	wantLists(t, "Leaves, "+what, leaves, e, right.outputs[0])
	digest, e = Fold(tree, uint64(len(data)), leaves)
	want(t, "Fold, "+what, digest, e, right.digest())
}

func TestAtTheEdges(t *testing.T) { // P10.1, P10.2, P10.6
	edges(func(what string, tree api.Tree, data []byte) {
		wantTree(t, what, tree, data)
	})
}

func TestDressed(t *testing.T) { // P10.1: Digest, Inner, Key, Salt and Personal at their edges
	for _, k := range kinds {
		for _, shaped := range []api.Tree{bare(k, 2, 3, 4), bare(k, 0, 255, 4), bare(k, 3, 255, 4)} {
			for i, tree := range dressed(shaped) {
				for _, n := range []int{0, 1, 4, 5, 9, 37, 150} {
					wantTree(t, fmt.Sprintf("tree %d of %v, %d bytes", i, shaped, n), tree, pattern(n))
				}
			}
		}
	}
}

func TestLongLeaves(t *testing.T) { // P10.1: leaves of several blocks, and far longer than their message
	for _, k := range kinds {
		for _, leaf := range []uint32{63, 64, 65, 127, 128, 129, 1000, math.MaxUint32 - 1, math.MaxUint32} {
			for _, n := range []int{0, 1, 64, 128, 129, 1000, 1001, 4000} {
				for _, tree := range []api.Tree{bare(k, 2, 255, leaf), grown(k, 3, 4, leaf)} {
					wantTree(t, fmt.Sprintf("leaf %d, %d bytes", leaf, n), tree, pattern(n))
				}
			}
		}
	}
}

func TestManyLeaves(t *testing.T) { // P10.1: places that need more than one and two bytes, and a root with very many children
	for _, k := range kinds {
		for _, tree := range []api.Tree{bare(k, 255, 255, 1), bare(k, 2, 2, 1)} {
			for _, n := range []int{257, 1<<16 + 1} {
				data := pattern(n)
				right := build(t, tree, data)
				digest, e := Hash(tree, data)
				want(t, "Hash", digest, e, right.digest())
				leaves, e := Leaves(tree, data)
				if e != api.OK || !sameLists(leaves, right.outputs[0]) {
					t.Errorf("Leaves of %d bytes are wrong: error %d", n, e)
				}
				digest, e = Fold(tree, uint64(n), leaves)
				want(t, "Fold", digest, e, right.digest())
			}
		}
	}
}

func TestCallsLieAsShapeSays(t *testing.T) { // P10.1: as many as there are nodes, with their parameters, flags and outputs' lengths
	edges(func(what string, tree api.Tree, data []byte) {
		total := uint64(len(data))
		calls, e := Calls(tree, data)
		wantOK(t, e)
		rows, e := shape.Rows(tree, total)
		wantOK(t, e)
		for row, nodes := range rows {
			for at := range nodes {
				if len(calls) == 0 {
					t.Fatalf("%s: too few calls", what)
				}
				c := calls[0]
				calls = calls[1:]
				wantLying(t, fmt.Sprintf("%s, row %d, place %d", what, row, at), tree, total, row, at, c)
				if s, _ := shape.Spot(tree, total, row, at); row == 0 && !bytes.Equal(c.Data, data[s.From:s.To]) {
					t.Errorf("%s: the leaf at %d has %x", what, at, c.Data)
				}
			}
		}
		if len(calls) != 0 {
			t.Errorf("%s: %d calls too many", what, len(calls))
		}
	})
}

// wantLying holds a call against what shape tells of its node.
func wantLying(t *testing.T, what string, tree api.Tree, total uint64, row int, at uint64, c api.Call) {
	t.Helper()
	s, e := shape.Spot(tree, total, row, at)
	wantOK(t, e)
	p, e := shape.Params(tree, total, row, at)
	wantOK(t, e)
	b, e := param.Encode(tree.Kind, p)
	want(t, "Block, "+what, c.Block, e, b)
	out, key := tree.Inner, tree.Key
	if s.Root {
		out = tree.Digest
	}
	if row > 0 {
		key = nil
		if len(c.Data) != int(s.To-s.From)*tree.Inner {
			t.Errorf("%s: Data of %d bytes over %d children", what, len(c.Data), s.To-s.From)
		}
	}
	if c.Kind != tree.Kind || c.Last != s.Last || c.Out != out || !bytes.Equal(c.Key, key) {
		t.Errorf("%s: %v", what, c)
	}
}

func TestCallsAreTaken(t *testing.T) { // P10.3: node.Call takes each of them, and answers what Rows tells; P10.6: the last output is the digest
	edges(func(what string, tree api.Tree, data []byte) {
		calls, e := Calls(tree, data)
		wantOK(t, e)
		rows, e := Rows(tree, data)
		wantOK(t, e)
		var outputs [][]byte
		for _, c := range calls {
			out, e := node.Call(c)
			wantOK(t, e)
			outputs = append(outputs, out)
		}
		wantLists(t, what, outputs, e, slices.Concat(rows...))
		digest, e := Hash(tree, data)
		want(t, what, digest, e, outputs[len(outputs)-1])
		if last := rows[len(rows)-1]; len(last) != 1 || !bytes.Equal(last[0], digest) {
			t.Errorf("%s: the last row: %x, want %x alone", what, last, digest)
		}
	})
}

func TestUnlikeLastLeaves(t *testing.T) { // P10.6: messages of unlike numbers of leaves have unlike calls of the last leaf
	for _, k := range kinds {
		for _, fanout := range []int{0, 2, 255} {
			tree := bare(k, fanout, 3, 4)
			var lasts []api.Call
			for leaves := 1; leaves < 20; leaves++ {
				calls, e := Calls(tree, make([]byte, 4*leaves))
				wantOK(t, e)
				last := calls[leaves-1]
				if !last.Last {
					t.Errorf("%d leaves: no flag", leaves)
				}
				if slices.ContainsFunc(lasts, func(c api.Call) bool { return sameCall(c, last) }) {
					t.Errorf("%d leaves: a last leaf's call that was there", leaves)
				}
				lasts = append(lasts, last)
			}
		}
	}
}

func TestTreesThatMayNotBe(t *testing.T) { // P10.1, P10.4, P2: shape's error ahead of all, in each call that is handed a tree
	for _, f := range faults() {
		wantErrno(t, "shape.Valid, "+f.what, shape.Valid(f.tree), f.why)
		for _, data := range [][]byte{nil, {}, []byte("1234567890")} {
			b, e := Hash(f.tree, data)
			wantNo(t, "Hash, "+f.what, b, e, f.why)
			if rows, e := Rows(f.tree, data); len(rows) != 0 || e != f.why {
				t.Errorf("Rows, %s: %x, error %d, want %d", f.what, rows, e, f.why)
			}
			if calls, e := Calls(f.tree, data); len(calls) != 0 || e != f.why {
				t.Errorf("Calls, %s: %v, error %d, want %d", f.what, calls, e, f.why)
			}
			if leaves, e := Leaves(f.tree, data); len(leaves) != 0 || e != f.why {
				t.Errorf("Leaves, %s: %x, error %d, want %d", f.what, leaves, e, f.why)
			}
			for _, total := range []uint64{0, uint64(len(data)), math.MaxUint64} {
				b, e = Fold(f.tree, total, [][]byte{data})
				wantNo(t, "Fold, "+f.what, b, e, f.why)
				b, e = Fold(f.tree, total, nil)
				wantNo(t, "Fold, "+f.what, b, e, f.why)
			}
		}
		if s, e := New(f.tree); s != nil || e != f.why {
			t.Errorf("New, %s: %v, error %d, want %d", f.what, s, e, f.why)
		}
	}
}

func TestFoldOfAnyOutputs(t *testing.T) { // P10.2: of outputs that no message is known to have, and of a total of which no byte is there
	for _, k := range kinds {
		for _, leaf := range []uint32{1, 4, math.MaxUint32} {
			tree := grown(k, 2, 255, leaf)
			var leaves [][]byte
			for n := range 9 {
				leaves = append(leaves, bytes.Repeat([]byte{byte(n)}, tree.Inner))
				right := foldByHand(t, tree, leaves)
				for _, total := range []uint64{uint64(n)*uint64(leaf) + 1, uint64(n+1) * uint64(leaf)} {
					digest, e := Fold(tree, total, leaves)
					want(t, fmt.Sprintf("Fold of %d leaves, %d bytes", n+1, total), digest, e, right)
				}
			}
		}
	}
}

// foldByHand tells the digest over leaves of a tree that Depth does not bound.
func foldByHand(t *testing.T, tree api.Tree, outputs [][]byte) []byte {
	t.Helper()
	for row := 1; ; row++ {
		nodes := (len(outputs) + tree.Fanout - 1) / tree.Fanout
		var next [][]byte
		for at := range nodes {
			out := tree.Inner
			if nodes == 1 {
				out = tree.Digest
			}
			children := outputs[at*tree.Fanout : min((at+1)*tree.Fanout, len(outputs))]
			b, e := node.Call(api.Call{Kind: tree.Kind, Block: block(tree, row, at), Last: at == nodes-1, Out: out, Data: bytes.Join(children, nil)})
			wantOK(t, e)
			next = append(next, b)
		}
		if nodes == 1 {
			return next[0]
		}
		outputs = next
	}
}

func TestFoldRefuses(t *testing.T) { // P10.2
	for _, k := range kinds {
		for _, tree := range []api.Tree{grown(k, 2, 255, 4), bare(k, 0, 2, 4), bare(k, 3, 2, 4)} {
			for _, n := range []int{0, 1, 4, 5, 8, 9, 33} {
				leaves, e := Leaves(tree, pattern(n))
				wantOK(t, e)
				total := uint64(n)
				refused := func(what string, total uint64, leaves [][]byte) {
					t.Helper()
					b, e := Fold(tree, total, leaves)
					wantNo(t, fmt.Sprintf("%s, %d bytes", what, n), b, e, api.ErrShape)
				}
				refused("one leaf too few", total, leaves[:len(leaves)-1])
				refused("one leaf too many", total, append(slices.Clone(leaves), leaves[0]))
				refused("none", total, nil)
				refused("none", total, [][]byte{})
				refused("a total of one leaf more", uint64(len(leaves))*4+1, leaves)
				refused("a very great total", 1<<47, leaves)
				if len(leaves) > 1 {
					refused("a total of one leaf less", uint64(len(leaves)-1)*4, leaves)
					refused("no bytes", 0, leaves)
				}
				for at := range leaves {
					for _, wrong := range [][]byte{nil, {}, leaves[at][1:], append(bytes.Clone(leaves[at]), 0)} {
						changed := slices.Clone(leaves)
						changed[at] = wrong
						refused(fmt.Sprintf("leaf %d of %d bytes", at, len(wrong)), total, changed)
					}
				}
			}
		}
	}
}

func TestFoldOfTooManyLeaves(t *testing.T) { // P10.2, P6: no list is as long as totals ask with more leaves than a Small tree has (2^48)
	for _, k := range kinds {
		for _, leaf := range []uint32{1, 2, 4} {
			most := uint64(leaf) << 48
			for _, tree := range []api.Tree{bare(k, 0, 2, leaf), bare(k, 2, 2, leaf), grown(k, 2, 255, leaf), grown(k, 255, 255, leaf)} {
				right := make([]byte, tree.Inner)
				for _, total := range []uint64{most - 1, most, most + 1, 1 << 63, math.MaxUint64} {
					for _, leaves := range [][][]byte{nil, {}, {right}, {right, right}, {nil}, {right[1:]}} {
						b, e := Fold(tree, total, leaves)
						wantNo(t, fmt.Sprintf("Fold of %v, %d bytes, %d outputs", tree, total, len(leaves)), b, e, api.ErrShape)
					}
				}
			}
		}
	}
}

func TestFoldOfTooManyLeavesOfNoTree(t *testing.T) { // P10.1, P2: shape's error ahead of all, at totals with too many leaves too
	for _, f := range faults() {
		for _, total := range []uint64{1<<48 + 1, 1<<50 + 1, 1 << 63} {
			b, e := Fold(f.tree, total, nil)
			wantNo(t, "Fold, "+f.what, b, e, f.why)
		}
	}
}

func TestNilAndEmpty(t *testing.T) { // P3
	for _, k := range kinds {
		tree := bare(k, 2, 3, 4)
		same := tree
		same.Key, same.Salt, same.Personal = []byte{}, []byte{}, []byte{}
		for _, data := range [][]byte{nil, {}} {
			wantTree(t, "nil lists", tree, data)
			wantTree(t, "empty lists", same, data)
		}
	}
}

// lists tells all lists of bytes of all answers about one message.
func lists(t *testing.T, tree api.Tree, data []byte, leaves [][]byte) [][]byte {
	t.Helper()
	digest, e := Hash(tree, data)
	wantOK(t, e)
	rows, e := Rows(tree, data)
	wantOK(t, e)
	calls, e := Calls(tree, data)
	wantOK(t, e)
	outputs, e := Leaves(tree, data)
	wantOK(t, e)
	folded, e := Fold(tree, uint64(len(data)), leaves)
	wantOK(t, e)
	all := append([][]byte{digest, folded}, slices.Concat(rows...)...)
	for _, c := range calls {
		all = append(all, c.Block, c.Key, c.Data)
	}
	return append(all, outputs...)
}

func TestWhatIsHandedInAndOut(t *testing.T) { // P4: arguments stay as they were, and no two lists share memory, spare room too
	for _, k := range kinds {
		for _, n := range []int{0, 3, 9, 30} {
			given, stillTree := roomyTree(grown(k, 2, 4, 4))
			data, stillData := roomy(pattern(n))
			leaves := build(t, given, data).outputs[0]
			var stills []func() bool
			for i := range leaves {
				list, still := roomy(leaves[i])
				leaves[i], stills = list, append(stills, still)
			}
			first := lists(t, given, data, leaves)
			var before [][]byte
			for _, b := range first {
				before = append(before, bytes.Clone(b))
			}
			second := lists(t, given, data, leaves)
			for i := range first {
				if !bytes.Equal(first[i], before[i]) {
					t.Errorf("kind %d, %d bytes: list %d shares memory with another one", k, n, i)
				}
				spoil(first[i])
			}
			wantLists(t, "asked again", second, api.OK, before)
			wantLists(t, "asked once more", lists(t, given, data, leaves), api.OK, before)
			if !stillTree() || !stillData() {
				t.Errorf("kind %d, %d bytes: an argument has changed", k, n)
			}
			for i, still := range stills {
				if !still() {
					t.Errorf("kind %d, %d bytes: output %d has changed", k, n, i)
				}
			}
		}
	}
}

func TestRowsShareNoRoom(t *testing.T) { // P4: what is appended to a row, or to all of them, is seen in no other answer
	tree, data := grown(api.Big, 2, 255, 4), pattern(45)
	right := build(t, tree, data).outputs
	first, e := Rows(tree, data)
	wantOK(t, e)
	second, e := Rows(tree, data)
	wantOK(t, e)
	for row := range first {
		whole := first[row][:cap(first[row])]
		for i := range whole {
			whole[i] = []byte("other")
		}
		wantRows(t, "rows above", first[row+1:], api.OK, right[row+1:])
	}
	wantRows(t, "the other answer", second, api.OK, right)
}

func TestCallsShareNoRoom(t *testing.T) { // P4, likewise
	tree, data := grown(api.Small, 3, 255, 4), pattern(45)
	first, e := Calls(tree, data)
	wantOK(t, e)
	second, e := Calls(tree, data)
	wantOK(t, e)
	clear(first[:cap(first)])
	wantCalls(t, "Calls", second, api.OK, build(t, tree, data).allCalls())
}
