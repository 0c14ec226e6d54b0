package clash

import (
	"bytes"
	"encoding/binary"
	"fmt"
	"math"
	"slices"
	"testing"

	"quern/api"
	"quern/node"
	"quern/param"
)

// kinds are the two that are; noKinds are some that are none.
var (
	kinds   = []api.Kind{api.Big, api.Small}
	noKinds = []api.Kind{0, 3, -1, math.MinInt, math.MaxInt}
)

// sizes are a kind's numbers, as the chapters' words tell them.
type sizes struct {
	lanes, block, most, salt int
}

func sizesOf(k api.Kind) sizes {
	if k == api.Small {
		return sizes{lanes: 8, block: 64, most: 32, salt: 8}
	}
	return sizes{lanes: 4, block: 128, most: 64, salt: 16}
}

func rising(n int) []byte {
	b := make([]byte, n)
	for i := range b {
		b[i] = byte(i + 1)
	}
	return b
}

func pattern(n int) []byte {
	b := make([]byte, n)
	for i := range b {
		b[i] = byte((i*i + 3*i) % 251)
	}
	return b
}

// weak tells a tree whose nodes give one byte, and whose digest has so many.
func weak(k api.Kind, digest, fanout, depth int, leaf uint32) api.Tree {
	return api.Tree{Kind: k, Digest: digest, Fanout: fanout, Depth: depth, Leaf: leaf, Inner: 1}
}

// dressed tells a tree with a key, a salt and a personal.
func dressed(t api.Tree) api.Tree {
	z := sizesOf(t.Kind)
	t.Key, t.Salt, t.Personal = rising(5), rising(z.salt), pattern(z.salt)
	return t
}

// weakTrees visits both kinds, each Fanout and Depth of note, bare and dressed; the digests have so many bytes.
func weakTrees(digest int, visit func(tree api.Tree)) {
	for _, k := range kinds {
		for _, fanout := range []int{0, 2, 3, 255} {
			for _, depth := range []int{2, 3, 255} {
				for _, leaf := range []uint32{1, 3} {
					visit(weak(k, digest, fanout, depth, leaf))
					visit(dressed(weak(k, digest, fanout, depth, leaf)))
				}
			}
		}
	}
}

// block tells a node's parameter block byte by byte, as chapter 2 lays it down.
func block(t api.Tree, row, at int) []byte {
	b := make([]byte, sizesOf(t.Kind).most)
	b[0], b[1], b[2], b[3] = byte(t.Digest), byte(len(t.Key)), byte(t.Fanout), byte(t.Depth)
	binary.LittleEndian.PutUint32(b[4:], t.Leaf)
	binary.LittleEndian.PutUint32(b[8:], uint32(at))
	nodeDepth := 16
	if t.Kind == api.Small {
		nodeDepth = 14
	}
	b[nodeDepth], b[nodeDepth+1] = byte(row), byte(t.Inner)
	copy(b[len(b)/2:], t.Salt)
	copy(b[len(b)*3/4:], t.Personal)
	return b
}

// built is a message hashed as the chapters' words have it: calls and their outputs by row.
type built struct {
	calls   [][]api.Call
	outputs [][][]byte
}

// lay makes the calls of a row, and lays them and their outputs above those that are there.
func (b *built) lay(t testing.TB, calls []api.Call) {
	t.Helper()
	var outputs [][]byte
	for _, c := range calls {
		outputs = append(outputs, output(t, c))
	}
	b.calls, b.outputs = append(b.calls, calls), append(b.outputs, outputs)
}

func output(t testing.TB, c api.Call) []byte {
	t.Helper()
	out, e := node.Call(c)
	if e != api.OK {
		t.Fatalf("node.Call of %v: error %d", c, e)
	}
	return out
}

// build lays a tree down node by node: data are dealt out one by one, and each node is hashed with what was dealt to it.
func build(t testing.TB, tree api.Tree, data []byte) built {
	t.Helper()
	datas := [][]byte{nil}
	for i, c := range data {
		if i > 0 && i%int(tree.Leaf) == 0 {
			datas = append(datas, nil)
		}
		datas[len(datas)-1] = append(datas[len(datas)-1], c)
	}
	var b built
	for row := 0; ; row++ {
		root := row > 0 && len(datas) == 1
		var calls []api.Call
		for at, d := range datas {
			c := api.Call{Kind: tree.Kind, Block: block(tree, row, at), Last: at == len(datas)-1, Out: tree.Inner, Data: d}
			if row == 0 {
				c.Key = tree.Key
			}
			if root {
				c.Out = tree.Digest
			}
			calls = append(calls, c)
		}
		b.lay(t, calls)
		if root {
			return b
		}
		one := tree.Fanout == 0 || row+1 == tree.Depth-1
		datas = nil
		for i, out := range b.outputs[row] {
			if i == 0 || !one && i%tree.Fanout == 0 {
				datas = append(datas, nil)
			}
			datas[len(datas)-1] = append(datas[len(datas)-1], out...)
		}
	}
}

func (b built) digest() []byte {
	return b.outputs[len(b.outputs)-1][0]
}

// standing is a call with the row and the place of its node.
type standing struct {
	call api.Call
	row  int
	at   uint64
}

// downward tells all calls in one list, level by level from the root on.
func (b built) downward() []standing {
	var list []standing
	for row, calls := range slices.Backward(b.calls) {
		for at, c := range calls {
			list = append(list, standing{c, row, uint64(at)})
		}
	}
	return list
}

// rightPair tells the first two that are unlike: up to them both lists go side by side.
func rightPair(t testing.TB, a, b built) (first, second standing) {
	t.Helper()
	x, y := a.downward(), b.downward()
	for i := range x {
		if !sameCall(x[i].call, y[i].call) {
			return x[i], y[i]
		}
	}
	t.Fatalf("all calls are alike")
	return standing{}, standing{}
}

// wantPair asks for the clash of two messages with one digest, both ways round, and holds it against the trees that are built by the words. It tells where the clash lies in the tree of a.
func wantPair(t testing.TB, what string, tree api.Tree, a, b []byte) standing {
	t.Helper()
	first, second := rightPair(t, build(t, tree, a), build(t, tree, b))
	x, y, e := Tree(tree, a, b)
	wantCalls(t, what, x, y, e, first.call, second.call)
	row, at, e := Depth(tree, a, b)
	wantPlace(t, what, row, at, e, first)
	wantFound(t, what, tree.Kind, x, row, at)
	wantClash(t, what, x, y)
	y, x, e = Tree(tree, b, a)
	wantCalls(t, what+", exchanged", x, y, e, first.call, second.call)
	row, at, e = Depth(tree, b, a)
	wantPlace(t, what+", exchanged", row, at, e, second)
	wantClash(t, what+", exchanged", y, x)
	return first
}

// wantFound holds a row and a place against those that a call's block says.
func wantFound(t testing.TB, what string, k api.Kind, c api.Call, row int, at uint64) {
	t.Helper()
	p, e := param.Decode(k, c.Block, false)
	if e != api.OK || p.NodeDepth != row || p.Offset != at {
		t.Errorf("%s: the call's block says row %d, place %d, error %d, Depth %d and %d", what, p.NodeDepth, p.Offset, e, row, at)
	}
}

func wantPlace(t testing.TB, what string, row int, at uint64, e api.Errno, right standing) {
	t.Helper()
	if e != api.OK || row != right.row || at != right.at {
		t.Errorf("Depth, %s: row %d, place %d, error %d, want %d and %d", what, row, at, e, right.row, right.at)
	}
}

// wantClash asks Check and Unlike about two calls that clash, both ways round.
func wantClash(t testing.TB, what string, x, y api.Call) {
	t.Helper()
	if !Unlike(x, y) || !Unlike(y, x) {
		t.Errorf("%s: %v and %v are alike", what, x, y)
	}
	ok, e := Check(x, y)
	wantCheck(t, what, ok, e, true)
	ok, e = Check(y, x)
	wantCheck(t, what+", exchanged", ok, e, true)
}

func wantCheck(t testing.TB, what string, ok bool, e api.Errno, right bool) {
	t.Helper()
	if ok != right || e != api.OK {
		t.Errorf("Check, %s: %v, error %d, want %v", what, ok, e, right)
	}
}

func wantCalls(t testing.TB, what string, x, y api.Call, e api.Errno, first, second api.Call) {
	t.Helper()
	if e != api.OK || !sameCall(x, first) || !sameCall(y, second) {
		t.Errorf("%s: %v and %v, error %d, want %v and %v", what, x, y, e, first, second)
	}
}

// wantNoPair asks Tree and Depth for the clash of two messages, both ways round, and wants this error.
func wantNoPair(t testing.TB, what string, tree api.Tree, a, b []byte, why api.Errno) {
	t.Helper()
	for range 2 {
		x, y, e := Tree(tree, a, b)
		wantNoCalls(t, "Tree, "+what, x, y, e, why)
		row, at, e := Depth(tree, a, b)
		if row != 0 || at != 0 || e != why {
			t.Errorf("Depth, %s: row %d, place %d, error %d, want error %d", what, row, at, e, why)
		}
		a, b = b, a
	}
}

func wantNoCalls(t testing.TB, what string, x, y api.Call, e, right api.Errno) {
	t.Helper()
	if e != right || !isZero(x) || !isZero(y) {
		t.Errorf("%s: %v and %v, error %d, want error %d", what, x, y, e, right)
	}
}

func isZero(c api.Call) bool {
	return sameCall(c, api.Call{})
}

// sameCall tells whether two calls are alike in every field, nil and empty lists being one.
func sameCall(a, b api.Call) bool {
	return a.Kind == b.Kind && bytes.Equal(a.Block, b.Block) && bytes.Equal(a.Key, b.Key) && a.Last == b.Last && a.Out == b.Out && bytes.Equal(a.Data, b.Data)
}

// wrongTree is a tree that may not be, and why.
type wrongTree struct {
	what string
	tree api.Tree
	why  api.Errno
}

// wrongTrees are each field's ends, alone and ahead of all that is looked at later.
func wrongTrees() []wrongTree {
	var list []wrongTree
	for _, k := range noKinds {
		list = append(list,
			wrongTree{"kind", api.Tree{Kind: k, Digest: 1, Fanout: 2, Depth: 2, Leaf: 1, Inner: 1}, api.ErrArg},
			wrongTree{"kind and all", api.Tree{Kind: k, Fanout: 1, Key: rising(65), Salt: rising(3)}, api.ErrArg})
	}
	list = append(list, wrongTree{"nothing told", api.Tree{}, api.ErrArg})
	for _, k := range kinds {
		z := sizesOf(k)
		add := func(what string, why api.Errno, change func(*api.Tree)) {
			tree := dressed(weak(k, 1, 2, 255, 4))
			change(&tree)
			list = append(list, wrongTree{what, tree, why})
		}
		behind := func(t *api.Tree) { t.Key, t.Salt = rising(z.most+1), rising(1) }
		number := func(what string, field func(*api.Tree) *int, wrong ...int) {
			for _, n := range append(wrong, -1, 256, 258, math.MinInt, math.MaxInt) {
				add(what, api.ErrTree, func(t *api.Tree) { *field(t) = n })
				add(what+" and all behind", api.ErrTree, func(t *api.Tree) { *field(t) = n; behind(t) })
			}
		}
		number("digest", func(t *api.Tree) *int { return &t.Digest }, 0, z.most+1)
		number("inner", func(t *api.Tree) *int { return &t.Inner }, 0, z.most+1)
		number("fanout", func(t *api.Tree) *int { return &t.Fanout }, 1)
		number("depth", func(t *api.Tree) *int { return &t.Depth }, 0, 1)
		add("leaf", api.ErrTree, func(t *api.Tree) { t.Leaf = 0 })
		add("key", api.ErrKey, func(t *api.Tree) { t.Key = rising(z.most + 1) })
		add("key and all behind", api.ErrKey, behind)
		for _, n := range []int{1, z.salt - 1, z.salt + 1, 300} {
			add("salt", api.ErrTree, func(t *api.Tree) { t.Salt = rising(n) })
			add("personal", api.ErrTree, func(t *api.Tree) { t.Personal = make([]byte, n) })
		}
	}
	return list
}

// roomy lays b into a longer list, with marks in the room behind its end; still tells whether it is all as it was.
func roomy(b []byte) (list []byte, still func() bool) {
	whole := append(bytes.Clone(b), bytes.Repeat([]byte{0xa5}, 300)...)
	before := bytes.Clone(whole)
	return whole[:len(b)], func() bool { return bytes.Equal(whole, before) }
}

// roomyTree lays a tree's lists likewise.
func roomyTree(t api.Tree) (api.Tree, func() bool) {
	var stills [3]func() bool
	t.Key, stills[0] = roomy(t.Key)
	t.Salt, stills[1] = roomy(t.Salt)
	t.Personal, stills[2] = roomy(t.Personal)
	return t, func() bool { return stills[0]() && stills[1]() && stills[2]() }
}

// roomyCall lays a call's lists likewise.
func roomyCall(c api.Call) (api.Call, func() bool) {
	var stills [3]func() bool
	c.Block, stills[0] = roomy(c.Block)
	c.Key, stills[1] = roomy(c.Key)
	c.Data, stills[2] = roomy(c.Data)
	return c, func() bool { return stills[0]() && stills[1]() && stills[2]() }
}

// spoil overwrites a list and the room behind its end.
func spoil(b []byte) {
	whole := b[:cap(b)]
	for i := range whole {
		whole[i] ^= 0xff
	}
}

// describe tells a tree and two messages for a report.
func describe(tree api.Tree, a, b []byte) string {
	return fmt.Sprintf("%v, %x and %x", tree, a, b)
}
