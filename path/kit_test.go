package path

import (
	"bytes"
	"encoding/binary"
	"fmt"
	"math"
	"math/big"
	"slices"
	"testing"

	"quern/api"
	"quern/node"
)

// kinds are the two that are; noKinds are some that are none.
var (
	kinds   = []api.Kind{api.Big, api.Small}
	noKinds = []api.Kind{0, 3, -1, math.MinInt, math.MaxInt}
)

const mostBytes = uint64(math.MaxUint64)

// sizes are a kind's numbers, as the chapters' words tell them.
type sizes struct {
	most, salt int
}

func sizesOf(k api.Kind) sizes {
	if k == api.Small {
		return sizes{most: 32, salt: 8}
	}
	return sizes{most: 64, salt: 16}
}

func rising(n int) []byte {
	b := make([]byte, n)
	for i := range b {
		b[i] = byte(i + 1)
	}
	return b
}

func pattern(n int) []byte {
	b := make([]byte, n)
	for i := range b {
		b[i] = byte((i*i + 3*i) % 251)
	}
	return b
}

// plan is the tree of the chapter's examples.
func plan(k api.Kind) api.Tree {
	return api.Tree{Kind: k, Digest: 32, Fanout: 2, Depth: 255, Leaf: 4, Inner: 8}
}

// bare tells a tree without key, salt and personal.
func bare(k api.Kind, fanout, depth int, leaf uint32) api.Tree {
	z := sizesOf(k)
	return api.Tree{Kind: k, Digest: z.most, Fanout: fanout, Depth: depth, Leaf: leaf, Inner: z.most / 2}
}

// grown tells a tree with all of its fields told.
func grown(k api.Kind, fanout, depth int, leaf uint32) api.Tree {
	z := sizesOf(k)
	return api.Tree{
		Kind: k, Digest: z.most - 1, Fanout: fanout, Depth: depth, Leaf: leaf, Inner: z.most / 4,
		Key: rising(5), Salt: rising(z.salt), Personal: bytes.Repeat([]byte{0xb5}, z.salt),
	}
}

// dressed are one tree with each of Key, Salt and Personal alone, all of them and none, and with Digest, Inner and Key at their edges.
func dressed(t api.Tree) []api.Tree {
	z := sizesOf(t.Kind)
	list := []api.Tree{t}
	add := func(change func(*api.Tree)) {
		changed := t
		change(&changed)
		list = append(list, changed)
	}
	add(func(t *api.Tree) { t.Key = rising(1) })
	add(func(t *api.Tree) { t.Key = rising(z.most) })
	add(func(t *api.Tree) { t.Salt = rising(z.salt) })
	add(func(t *api.Tree) { t.Personal = pattern(z.salt) })
	add(func(t *api.Tree) { t.Salt, t.Personal = make([]byte, z.salt), make([]byte, z.salt) })
	add(func(t *api.Tree) { t.Digest, t.Inner = 1, z.most })
	add(func(t *api.Tree) { t.Digest, t.Inner = z.most, 1 })
	add(func(t *api.Tree) { t.Key, t.Salt, t.Personal = make([]byte, 3), pattern(z.salt), rising(z.salt) })
	return list
}

// lengths are those of messages at which a tree turns: around its leaves and its full rows, as long as there are few nodes.
func lengths(t api.Tree) []int {
	leaf := int(t.Leaf)
	list := []int{0, 1, leaf - 1, leaf, leaf + 1, 2*leaf - 1, 2 * leaf, 2*leaf + 1, 5 * leaf, 11*leaf + 1}
	if t.Fanout > 0 {
		for full := leaf * t.Fanout; full <= max(30, t.Fanout)*leaf; full *= t.Fanout {
			list = append(list, full-leaf, full-leaf+1, full-1, full, full+1, full+leaf, full+leaf+1)
		}
	}
	slices.Sort(list)
	return slices.Compact(list)
}

// edges visits both kinds, each Fanout and Depth of note and all lengths at which such a tree turns, with all fields told and with few.
func edges(visit func(what string, tree api.Tree, data []byte)) {
	for _, k := range kinds {
		for _, fanout := range []int{0, 2, 3, 255} {
			for _, depth := range []int{2, 3, 255} {
				for _, leaf := range []uint32{1, 3} {
					for _, n := range lengths(bare(k, fanout, depth, leaf)) {
						for i, tree := range []api.Tree{bare(k, fanout, depth, leaf), grown(k, fanout, depth, leaf)} {
							what := fmt.Sprintf("kind %d, fanout %d, depth %d, leaf %d, tree %d, %d bytes", k, fanout, depth, leaf, i, n)
							visit(what, tree, pattern(n))
						}
					}
				}
			}
		}
	}
}

// block tells a node's parameter block byte by byte, as chapter 2 lays it down.
func block(t api.Tree, row int, at uint64) []byte {
	z := sizesOf(t.Kind)
	b := make([]byte, z.most)
	binary.LittleEndian.PutUint64(b[8:], at)
	b[0], b[1], b[2], b[3] = byte(t.Digest), byte(len(t.Key)), byte(t.Fanout), byte(t.Depth)
	binary.LittleEndian.PutUint32(b[4:], t.Leaf)
	nodeDepth := 16
	if t.Kind == api.Small {
		nodeDepth = 14
	}
	b[nodeDepth], b[nodeDepth+1] = byte(row), byte(t.Inner)
	copy(b[len(b)/2:], t.Salt)
	copy(b[len(b)*3/4:], t.Personal)
	return b
}

// given tells what a node gives, by its place and its data.
func given(t testing.TB, tree api.Tree, row int, at uint64, last, root bool, data []byte) []byte {
	t.Helper()
	c := api.Call{Kind: tree.Kind, Block: block(tree, row, at), Last: last, Out: tree.Inner, Data: data}
	if row == 0 {
		c.Key = tree.Key
	}
	if root {
		c.Out = tree.Digest
	}
	out, e := node.Call(c)
	wantOK(t, e)
	return out
}

// built is a tree as the chapters' words have it.
type built struct {
	pieces  [][]byte   // of the leaves
	outputs [][][]byte // by row
	above   [][]int    // of each row, but the root's, which node of the next one each belongs to
}

// build lays a tree down node by node: data are dealt out one by one, and each node is hashed with what was dealt to it.
func build(t testing.TB, tree api.Tree, data []byte) built {
	t.Helper()
	pieces := [][]byte{nil}
	for i, c := range data {
		if i > 0 && i%int(tree.Leaf) == 0 {
			pieces = append(pieces, nil)
		}
		pieces[len(pieces)-1] = append(pieces[len(pieces)-1], c)
	}
	b := built{pieces: pieces}
	datas := pieces
	for row := 0; ; row++ {
		root := row > 0 && len(datas) == 1
		var outputs [][]byte
		for at, d := range datas {
			outputs = append(outputs, given(t, tree, row, uint64(at), at == len(datas)-1, root, d))
		}
		b.outputs = append(b.outputs, outputs)
		if root {
			return b
		}
		one := tree.Fanout == 0 || row+1 == tree.Depth-1
		datas = nil
		var above []int
		for i, out := range outputs {
			if i == 0 || !one && i%tree.Fanout == 0 {
				datas = append(datas, nil)
			}
			datas[len(datas)-1] = append(datas[len(datas)-1], out...)
			above = append(above, len(datas)-1)
		}
		b.above = append(b.above, above)
	}
}

func (b built) root() []byte {
	return b.outputs[len(b.outputs)-1][0]
}

// path tells that of a leaf: of each row those that have the same node above them.
func (b built) path(total, leaf int) api.Path {
	p := api.Path{Total: uint64(total), Leaf: uint64(leaf)}
	on := leaf
	for row, above := range b.above {
		var s api.Step
		for at, up := range above {
			switch {
			case up == above[on] && at < on:
				s.Before = append(s.Before, b.outputs[row][at])
			case up == above[on] && at > on:
				s.After = append(s.After, b.outputs[row][at])
			}
		}
		p.Steps = append(p.Steps, s)
		on = above[on]
	}
	return p
}

// noted are leaves of note: the first, the last, those beside them and one in the middle.
func (b built) noted() []int {
	n := len(b.pieces)
	list := []int{0, n - 1, n / 2}
	if n > 1 {
		list = append(list, 1, n-2)
	}
	slices.Sort(list)
	return slices.Compact(list)
}

// turn is a node on the way, in a tree of which nothing but its length is known.
type turn struct {
	row           int
	at            uint64
	before, after uint64
	last, root    bool
}

func up(n *big.Int, size uint64) *big.Int {
	whole, rest := new(big.Int).DivMod(n, new(big.Int).SetUint64(size), new(big.Int))
	if rest.Sign() != 0 {
		whole.Add(whole, big.NewInt(1))
	}
	return whole
}

// farLeaves tells how many leaves total bytes have.
func farLeaves(t api.Tree, total uint64) uint64 {
	if total == 0 {
		return 1
	}
	return up(new(big.Int).SetUint64(total), uint64(t.Leaf)).Uint64()
}

// farTurns tells the way of a leaf by the chapters' words, in numbers without a bound.
func farTurns(t api.Tree, total, leaf uint64) []turn {
	var list []turn
	nodes, at := new(big.Int).SetUint64(farLeaves(t, total)), new(big.Int).SetUint64(leaf)
	for row := 1; ; row++ {
		above, from, to := big.NewInt(1), new(big.Int), new(big.Int).Set(nodes)
		place := new(big.Int)
		if t.Fanout != 0 && row < t.Depth-1 {
			fanout := big.NewInt(int64(t.Fanout))
			above = up(nodes, uint64(t.Fanout))
			place.Div(at, fanout)
			from.Mul(place, fanout)
			if end := new(big.Int).Add(from, fanout); end.Cmp(nodes) < 0 {
				to = end
			}
		}
		root := above.Cmp(big.NewInt(1)) == 0
		list = append(list, turn{
			row: row, at: place.Uint64(), root: root,
			before: new(big.Int).Sub(at, from).Uint64(),
			after:  new(big.Int).Sub(to, new(big.Int).Add(at, big.NewInt(1))).Uint64(),
			last:   new(big.Int).Add(place, big.NewInt(1)).Cmp(above) == 0,
		})
		if root {
			return list
		}
		nodes, at = above, place
	}
}

// madeUp tells a path that fits that way, with digests that stand for none of a message, and how many there are.
func madeUp(t api.Tree, total, leaf uint64) (api.Path, int) {
	p, n := api.Path{Total: total, Leaf: leaf}, 0
	take := func(many uint64) (list [][]byte) {
		for range many {
			digest := make([]byte, t.Inner)
			for j := range digest {
				digest[j] = byte(n*13 + j*7 + 1)
			}
			list = append(list, digest)
			n++
		}
		return list
	}
	for _, turn := range farTurns(t, total, leaf) {
		before := take(turn.before)
		p.Steps = append(p.Steps, api.Step{Before: before, After: take(turn.after)})
	}
	return p, n
}

// farRoot tells what a path comes to, node by node.
func farRoot(t testing.TB, tree api.Tree, p api.Path, piece []byte) []byte {
	t.Helper()
	out := given(t, tree, 0, p.Leaf, p.Leaf == farLeaves(tree, p.Total)-1, false, piece)
	for i, turn := range farTurns(tree, p.Total, p.Leaf) {
		var data []byte
		for _, digest := range p.Steps[i].Before {
			data = append(data, digest...)
		}
		data = append(data, out...)
		for _, digest := range p.Steps[i].After {
			data = append(data, digest...)
		}
		out = given(t, tree, turn.row, turn.at, turn.last, turn.root, data)
	}
	return out
}

// flat tells a path's digests as they are packed.
func flat(p api.Path) []byte {
	var b []byte
	for _, s := range p.Steps {
		for _, digest := range s.Before {
			b = append(b, digest...)
		}
		for _, digest := range s.After {
			b = append(b, digest...)
		}
	}
	return b
}

// head tells sixteen bytes that say Total and Leaf.
func head(total, leaf uint64) []byte {
	b := make([]byte, 16)
	for i := range 8 {
		b[i], b[8+i] = byte(total>>(8*i)), byte(leaf>>(8*i))
	}
	return b
}

// clone tells a path with lists of its own.
func clone(p api.Path) api.Path {
	copied := func(list [][]byte) (copies [][]byte) {
		for _, digest := range list {
			copies = append(copies, bytes.Clone(digest))
		}
		return copies
	}
	steps := make([]api.Step, len(p.Steps))
	for i, s := range p.Steps {
		steps[i] = api.Step{Before: copied(s.Before), After: copied(s.After)}
	}
	p.Steps = steps
	return p
}

func sameLists(a, b [][]byte) bool {
	return slices.EqualFunc(a, b, bytes.Equal)
}

// samePath tells whether two paths are alike in every field, nil and empty lists being one.
func samePath(a, b api.Path) bool {
	return a.Total == b.Total && a.Leaf == b.Leaf && slices.EqualFunc(a.Steps, b.Steps, func(a, b api.Step) bool {
		return sameLists(a.Before, b.Before) && sameLists(a.After, b.After)
	})
}

// fault is a tree that may not be, and why.
type fault struct {
	what string
	tree api.Tree
	why  api.Errno
}

// faults are each field's ends, alone and ahead of all that is looked at later.
func faults() []fault {
	var list []fault
	for _, k := range noKinds {
		list = append(list,
			fault{"kind", api.Tree{Kind: k, Digest: 1, Fanout: 2, Depth: 2, Leaf: 1, Inner: 1}, api.ErrArg},
			fault{"kind and all", api.Tree{Kind: k, Fanout: 1, Key: rising(65), Salt: rising(3)}, api.ErrArg})
	}
	for _, k := range kinds {
		z := sizesOf(k)
		add := func(what string, why api.Errno, change func(*api.Tree)) {
			tree := grown(k, 2, 255, 4)
			change(&tree)
			list = append(list, fault{what, tree, why})
		}
		behind := func(t *api.Tree) { t.Key, t.Salt = rising(z.most+1), rising(1) }
		number := func(what string, field func(*api.Tree) *int, wrong ...int) {
			for _, n := range append(wrong, -1, 256, 258, math.MinInt, math.MaxInt) {
				add(what, api.ErrTree, func(t *api.Tree) { *field(t) = n })
				add(what+" and all behind", api.ErrTree, func(t *api.Tree) { *field(t) = n; behind(t) })
			}
		}
		number("digest", func(t *api.Tree) *int { return &t.Digest }, 0, z.most+1)
		number("inner", func(t *api.Tree) *int { return &t.Inner }, 0, z.most+1)
		number("fanout", func(t *api.Tree) *int { return &t.Fanout }, 1)
		number("depth", func(t *api.Tree) *int { return &t.Depth }, 0, 1)
		add("leaf", api.ErrTree, func(t *api.Tree) { t.Leaf = 0 })
		add("key", api.ErrKey, func(t *api.Tree) { t.Key = rising(z.most + 1) })
		add("key and all behind", api.ErrKey, behind)
		for _, n := range []int{1, z.salt - 1, z.salt + 1, 300} {
			add("salt", api.ErrTree, func(t *api.Tree) { t.Salt = rising(n) })
			add("personal", api.ErrTree, func(t *api.Tree) { t.Personal = make([]byte, n) })
		}
	}
	return list
}

func wantOK(t testing.TB, e api.Errno) {
	t.Helper()
	if e != api.OK {
		t.Fatalf("error %d", e)
	}
}

func wantErrno(t *testing.T, what string, e, right api.Errno) {
	t.Helper()
	if e != right {
		t.Errorf("%s: error %d, want %d", what, e, right)
	}
}

func want(t *testing.T, what string, got []byte, e api.Errno, right []byte) {
	t.Helper()
	if e != api.OK || !bytes.Equal(got, right) {
		t.Errorf("%s: %x, error %d, want %x", what, got, e, right)
	}
}

func wantNo(t *testing.T, what string, got []byte, e, right api.Errno) {
	t.Helper()
	if e != right || len(got) != 0 {
		t.Errorf("%s: %x, error %d, want error %d", what, got, e, right)
	}
}

func wantPath(t *testing.T, what string, got api.Path, e api.Errno, right api.Path) {
	t.Helper()
	if e != api.OK || !samePath(got, right) {
		t.Errorf("%s: %x, error %d, want %x", what, got, e, right)
	}
}

func wantNoPath(t *testing.T, what string, got api.Path, e, right api.Errno) {
	t.Helper()
	if e != right || got.Total != 0 || got.Leaf != 0 || len(got.Steps) != 0 {
		t.Errorf("%s: %x, error %d, want error %d", what, got, e, right)
	}
}

func wantNumber(t *testing.T, what string, got uint64, e api.Errno, right uint64) {
	t.Helper()
	if e != api.OK || got != right {
		t.Errorf("%s: %d, error %d, want %d", what, got, e, right)
	}
}

// wantRefused asks all calls that are handed a path for one of this length and leaf, with these steps and piece, and wants this error.
func wantRefused(t *testing.T, what string, tree api.Tree, p api.Path, piece []byte, why api.Errno) {
	t.Helper()
	got, e := Root(tree, p, piece)
	wantNo(t, "Root, "+what, got, e, why)
	wantErrno(t, "Check, "+what, Check(tree, p, piece, nil), why)
	wantErrno(t, "Check with a root, "+what, Check(tree, p, piece, make([]byte, max(0, min(64, tree.Digest)))), why)
	got, e = Pack(tree, p)
	wantNo(t, "Pack, "+what, got, e, why)
}

// roomy lays b into a longer list, with marks in the room behind its end; still tells whether it is all as it was.
func roomy(b []byte) (list []byte, still func() bool) {
	whole := append(bytes.Clone(b), bytes.Repeat([]byte{0xa5}, 300)...)
	before := bytes.Clone(whole)
	return whole[:len(b)], func() bool { return bytes.Equal(whole, before) }
}

// roomyTree lays a tree's lists likewise.
func roomyTree(t api.Tree) (api.Tree, func() bool) {
	var stills [3]func() bool
	t.Key, stills[0] = roomy(t.Key)
	t.Salt, stills[1] = roomy(t.Salt)
	t.Personal, stills[2] = roomy(t.Personal)
	return t, func() bool { return stills[0]() && stills[1]() && stills[2]() }
}

// roomyLists lays a list of digests likewise, the list's own room with marks too.
func roomyLists(list [][]byte) ([][]byte, func() bool) {
	var whole [][]byte
	var stills []func() bool
	for _, digest := range list {
		laid, still := roomy(digest)
		whole, stills = append(whole, laid), append(stills, still)
	}
	for range 5 {
		laid, still := roomy([]byte("mark"))
		whole, stills = append(whole, laid), append(stills, still)
	}
	first := slices.Clone(whole)
	return whole[:len(list)], func() bool {
		for i := range whole {
			if len(whole[i]) != len(first[i]) || len(first[i]) > 0 && &whole[i][0] != &first[i][0] || !stills[i]() {
				return false
			}
		}
		return true
	}
}

// roomyPath lays a path likewise, its list of steps with a marked one behind its end.
func roomyPath(p api.Path) (api.Path, func() bool) {
	var stills []func() bool
	var whole []api.Step
	for _, s := range append(slices.Clone(p.Steps), api.Step{Before: [][]byte{{1}}, After: [][]byte{{2}, {3}}}) {
		before, still := roomyLists(s.Before)
		stills = append(stills, still)
		after, still := roomyLists(s.After)
		stills = append(stills, still)
		whole = append(whole, api.Step{Before: before, After: after})
	}
	counts := func() (n []int) {
		for _, s := range whole {
			n = append(n, len(s.Before), len(s.After))
		}
		return n
	}
	first := counts()
	p.Steps = whole[:len(p.Steps)]
	return p, func() bool {
		for _, still := range stills {
			if !still() {
				return false
			}
		}
		return slices.Equal(counts(), first)
	}
}

// spoil overwrites a list and the room behind its end.
func spoil(b []byte) {
	whole := b[:cap(b)]
	for i := range whole {
		whole[i] ^= 0xff
	}
}

// spoilLists overwrites the digests of a list, and then the list, with the room behind their ends.
func spoilLists(list [][]byte) {
	whole := list[:cap(list)]
	for _, digest := range whole {
		spoil(digest)
	}
	for i := range whole {
		whole[i] = []byte("spoilt")
	}
}

// spoilPath overwrites all lists of a path likewise.
func spoilPath(p api.Path) {
	whole := p.Steps[:cap(p.Steps)]
	for _, s := range whole {
		spoilLists(s.Before)
		spoilLists(s.After)
	}
	clear(whole)
}
