package tree

import (
	"bytes"
	"encoding/binary"
	"fmt"
	"math"
	"slices"
	"testing"

	"quern/api"
	"quern/node"
)

// kinds are the two that are; noKinds are some that are none.
var (
	kinds   = []api.Kind{api.Big, api.Small}
	noKinds = []api.Kind{0, 3, -1, math.MinInt, math.MaxInt}
)

// sizes are a kind's numbers, as the chapters' words tell them.
type sizes struct {
	most, salt int
}

func sizesOf(k api.Kind) sizes {
	if k == api.Small {
		return sizes{most: 32, salt: 8}
	}
	return sizes{most: 64, salt: 16}
}

func rising(n int) []byte {
	b := make([]byte, n)
	for i := range b {
		b[i] = byte(i + 1)
	}
	return b
}

func pattern(n int) []byte {
	b := make([]byte, n)
	for i := range b {
		b[i] = byte((i*i + 3*i) % 251)
	}
	return b
}

// plan is the tree of the chapter's examples.
func plan() api.Tree {
	return api.Tree{Kind: api.Big, Digest: 32, Fanout: 2, Depth: 3, Leaf: 4, Inner: 16}
}

// bare tells a tree without key, salt and personal.
func bare(k api.Kind, fanout, depth int, leaf uint32) api.Tree {
	z := sizesOf(k)
	return api.Tree{Kind: k, Digest: z.most, Fanout: fanout, Depth: depth, Leaf: leaf, Inner: z.most / 2}
}

// grown tells a tree with all of its fields told.
func grown(k api.Kind, fanout, depth int, leaf uint32) api.Tree {
	z := sizesOf(k)
	return api.Tree{
		Kind: k, Digest: z.most - 1, Fanout: fanout, Depth: depth, Leaf: leaf, Inner: z.most / 2,
		Key: rising(5), Salt: rising(z.salt), Personal: bytes.Repeat([]byte{0xb5}, z.salt),
	}
}

// dressed are one tree with each of Key, Salt and Personal alone, all of them and none, and with Digest, Inner and Key at their edges.
func dressed(t api.Tree) []api.Tree {
	z := sizesOf(t.Kind)
	list := []api.Tree{t}
	add := func(change func(*api.Tree)) {
		changed := t
		change(&changed)
		list = append(list, changed)
	}
	add(func(t *api.Tree) { t.Key = rising(1) })
	add(func(t *api.Tree) { t.Key = rising(z.most) })
	add(func(t *api.Tree) { t.Salt = rising(z.salt) })
	add(func(t *api.Tree) { t.Personal = pattern(z.salt) })
	add(func(t *api.Tree) { t.Salt, t.Personal = make([]byte, z.salt), make([]byte, z.salt) })
	add(func(t *api.Tree) { t.Digest, t.Inner = 1, z.most })
	add(func(t *api.Tree) { t.Digest, t.Inner = z.most, 1 })
	add(func(t *api.Tree) { t.Key, t.Salt, t.Personal = make([]byte, 3), pattern(z.salt), rising(z.salt) })
	return list
}

// lengths are those of messages at which a tree turns: around its leaves and its full rows, as long as there are few nodes.
func lengths(t api.Tree) []int {
	leaf := int(t.Leaf)
	list := []int{0, 1, leaf - 1, leaf, leaf + 1, 2*leaf - 1, 2 * leaf, 2*leaf + 1, 5 * leaf, 11*leaf + 1}
	if t.Fanout > 0 {
		for full := leaf * t.Fanout; full <= max(40, t.Fanout)*leaf; full *= t.Fanout {
			list = append(list, full-leaf, full-leaf+1, full-1, full, full+1, full+leaf, full+leaf+1)
		}
	}
	slices.Sort(list)
	return slices.Compact(list)
}

// edges visits both kinds, each Fanout and Depth of note and all lengths at which such a tree turns.
func edges(visit func(what string, tree api.Tree, data []byte)) {
	for _, k := range kinds {
		for _, fanout := range []int{0, 2, 3, 255} {
			for _, depth := range []int{2, 3, 4, 255} {
				for _, leaf := range []uint32{1, 3} {
					for _, n := range lengths(bare(k, fanout, depth, leaf)) {
						for i, tree := range []api.Tree{bare(k, fanout, depth, leaf), grown(k, fanout, depth, leaf)} {
							what := fmt.Sprintf("kind %d, fanout %d, depth %d, leaf %d, tree %d, %d bytes", k, fanout, depth, leaf, i, n)
							visit(what, tree, pattern(n))
						}
					}
				}
			}
		}
	}
}

// block tells a node's parameter block byte by byte, as chapter 2 lays it down.
func block(t api.Tree, row, at int) []byte {
	z := sizesOf(t.Kind)
	b := make([]byte, z.most)
	b[0], b[1], b[2], b[3] = byte(t.Digest), byte(len(t.Key)), byte(t.Fanout), byte(t.Depth)
	binary.LittleEndian.PutUint32(b[4:], t.Leaf)
	binary.LittleEndian.PutUint32(b[8:], uint32(at))
	nodeDepth := 16
	if t.Kind == api.Small {
		nodeDepth = 14
	}
	b[nodeDepth], b[nodeDepth+1] = byte(row), byte(t.Inner)
	copy(b[len(b)/2:], t.Salt)
	copy(b[len(b)*3/4:], t.Personal)
	return b
}

// built is a tree as the chapters' words have it: calls and their outputs by row.
type built struct {
	calls   [][]api.Call
	outputs [][][]byte
}

// build lays a tree down node by node: data are dealt out one by one, and each node is hashed with what was dealt to it.
func build(t testing.TB, tree api.Tree, data []byte) built {
	t.Helper()
	datas := [][]byte{nil}
	for i, c := range data {
		if i > 0 && i%int(tree.Leaf) == 0 {
			datas = append(datas, nil)
		}
		datas[len(datas)-1] = append(datas[len(datas)-1], c)
	}
	var b built
	for row := 0; ; row++ {
		root := row > 0 && len(datas) == 1
		var calls []api.Call
		var outputs [][]byte
		for at, d := range datas {
			c := api.Call{Kind: tree.Kind, Block: block(tree, row, at), Last: at == len(datas)-1, Out: tree.Inner, Data: d}
			if row == 0 {
				c.Key = tree.Key
			}
			if root {
				c.Out = tree.Digest
			}
			out, e := node.Call(c)
			wantOK(t, e)
			calls, outputs = append(calls, c), append(outputs, out)
		}
		b.calls, b.outputs = append(b.calls, calls), append(b.outputs, outputs)
		if root {
			return b
		}
		one := tree.Fanout == 0 || row+1 == tree.Depth-1
		datas = nil
		for i, out := range outputs {
			if i == 0 || !one && i%tree.Fanout == 0 {
				datas = append(datas, nil)
			}
			datas[len(datas)-1] = append(datas[len(datas)-1], out...)
		}
	}
}

func (b built) digest() []byte {
	return b.outputs[len(b.outputs)-1][0]
}

func (b built) allCalls() []api.Call {
	return slices.Concat(b.calls...)
}

// rightOpen tells Held and Open out of the words: which nodes are settled, and which of these have none above them that is.
func rightOpen(t api.Tree, taken int) (held int, open []int) {
	settled := 0
	for (settled+1)*int(t.Leaf) < taken {
		settled++
	}
	held = taken - settled*int(t.Leaf)
	for row := 0; settled > 0; row++ {
		above := 0
		if t.Fanout != 0 && row+1 < t.Depth-1 {
			for (above+1)*t.Fanout <= settled {
				above++
			}
		}
		open = append(open, settled-above*t.Fanout)
		settled = above
	}
	return held, open
}

// fault is a tree that may not be, and why.
type fault struct {
	what string
	tree api.Tree
	why  api.Errno
}

// faults are each field's ends, alone and ahead of all that is looked at later.
func faults() []fault {
	var list []fault
	for _, k := range noKinds {
		list = append(list,
			fault{"kind", api.Tree{Kind: k, Digest: 1, Fanout: 2, Depth: 2, Leaf: 1, Inner: 1}, api.ErrArg},
			fault{"kind and all", api.Tree{Kind: k, Fanout: 1, Key: rising(65), Salt: rising(3)}, api.ErrArg})
	}
	for _, k := range kinds {
		z := sizesOf(k)
		add := func(what string, why api.Errno, change func(*api.Tree)) {
			tree := grown(k, 2, 255, 4)
			change(&tree)
			list = append(list, fault{what, tree, why})
		}
		behind := func(t *api.Tree) { t.Key, t.Salt = rising(z.most+1), rising(1) }
		number := func(what string, field func(*api.Tree) *int, wrong ...int) {
			for _, n := range append(wrong, -1, 256, 258, math.MinInt, math.MaxInt) {
				add(what, api.ErrTree, func(t *api.Tree) { *field(t) = n })
				add(what+" and all behind", api.ErrTree, func(t *api.Tree) { *field(t) = n; behind(t) })
			}
		}
		number("digest", func(t *api.Tree) *int { return &t.Digest }, 0, z.most+1)
		number("inner", func(t *api.Tree) *int { return &t.Inner }, 0, z.most+1)
		number("fanout", func(t *api.Tree) *int { return &t.Fanout }, 1)
		number("depth", func(t *api.Tree) *int { return &t.Depth }, 0, 1)
		add("leaf", api.ErrTree, func(t *api.Tree) { t.Leaf = 0 })
		add("key", api.ErrKey, func(t *api.Tree) { t.Key = rising(z.most + 1) })
		add("key and all behind", api.ErrKey, behind)
		for _, n := range []int{1, z.salt - 1, z.salt + 1, 300} {
			add("salt", api.ErrTree, func(t *api.Tree) { t.Salt = rising(n) })
			add("personal", api.ErrTree, func(t *api.Tree) { t.Personal = make([]byte, n) })
		}
	}
	return list
}

func wantOK(t testing.TB, e api.Errno) {
	t.Helper()
	if e != api.OK {
		t.Fatalf("error %d", e)
	}
}

func wantErrno(t *testing.T, what string, e, right api.Errno) {
	t.Helper()
	if e != right {
		t.Errorf("%s: error %d, want %d", what, e, right)
	}
}

func want(t *testing.T, what string, got []byte, e api.Errno, right []byte) {
	t.Helper()
	if e != api.OK || !bytes.Equal(got, right) {
		t.Errorf("%s: %x, error %d, want %x", what, got, e, right)
	}
}

func wantNo(t *testing.T, what string, got []byte, e, right api.Errno) {
	t.Helper()
	if e != right || len(got) != 0 {
		t.Errorf("%s: %x, error %d, want error %d", what, got, e, right)
	}
}

func sameLists(a, b [][]byte) bool {
	return slices.EqualFunc(a, b, bytes.Equal)
}

func wantLists(t *testing.T, what string, got [][]byte, e api.Errno, right [][]byte) {
	t.Helper()
	if e != api.OK || !sameLists(got, right) {
		t.Errorf("%s: %x, error %d, want %x", what, got, e, right)
	}
}

func wantRows(t *testing.T, what string, got [][][]byte, e api.Errno, right [][][]byte) {
	t.Helper()
	if e != api.OK || !slices.EqualFunc(got, right, sameLists) {
		t.Errorf("%s: %x, error %d, want %x", what, got, e, right)
	}
}

// sameCall tells whether two calls are alike in every field, nil and empty lists being one.
func sameCall(a, b api.Call) bool {
	return a.Kind == b.Kind && bytes.Equal(a.Block, b.Block) && bytes.Equal(a.Key, b.Key) && a.Last == b.Last && a.Out == b.Out && bytes.Equal(a.Data, b.Data)
}

func wantCalls(t *testing.T, what string, got []api.Call, e api.Errno, right []api.Call) {
	t.Helper()
	if e != api.OK || !slices.EqualFunc(got, right, sameCall) {
		t.Errorf("%s: %v, error %d, want %v", what, got, e, right)
	}
}

func newStream(t testing.TB, tree api.Tree) *Stream {
	t.Helper()
	s, e := New(tree)
	wantOK(t, e)
	return s
}

func write(t *testing.T, s *Stream, b []byte) {
	t.Helper()
	wantErrno(t, "Write", s.Write(b), api.OK)
}

// wantState asks a stream how far it is, by the bytes that were taken.
func wantState(t *testing.T, what string, s *Stream, tree api.Tree, taken int) {
	t.Helper()
	held, open := rightOpen(tree, taken)
	if s.Taken() != uint64(taken) || s.Held() != held || !slices.Equal(s.Open(), open) {
		t.Errorf("%s: Taken %d, Held %d, Open %v, want %d, %d, %v", what, s.Taken(), s.Held(), s.Open(), taken, held, open)
	}
}

// wantAll asks a stream for all that it tells, and holds its Sum against that of the tree that is built by the words.
func wantAll(t *testing.T, what string, s *Stream, tree api.Tree, data []byte) {
	t.Helper()
	wantState(t, what, s, tree, len(data))
	if got, right := s.Sum(), build(t, tree, data).digest(); !bytes.Equal(got, right) {
		t.Errorf("%s: Sum %x, want %x", what, got, right)
	}
	wantState(t, what+", behind Sum", s, tree, len(data))
}

// roomy lays b into a longer list, with marks in the room behind its end; still tells whether it is all as it was.
func roomy(b []byte) (list []byte, still func() bool) {
	whole := append(bytes.Clone(b), bytes.Repeat([]byte{0xa5}, 300)...)
	before := bytes.Clone(whole)
	return whole[:len(b)], func() bool { return bytes.Equal(whole, before) }
}

// roomyTree lays a tree's lists likewise.
func roomyTree(t api.Tree) (api.Tree, func() bool) {
	var stills [3]func() bool
	t.Key, stills[0] = roomy(t.Key)
	t.Salt, stills[1] = roomy(t.Salt)
	t.Personal, stills[2] = roomy(t.Personal)
	return t, func() bool { return stills[0]() && stills[1]() && stills[2]() }
}

// spoil overwrites a list and the room behind its end.
func spoil(b []byte) {
	whole := b[:cap(b)]
	for i := range whole {
		whole[i] ^= 0xff
	}
}
