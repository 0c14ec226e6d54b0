package shape

import (
	"bytes"
	"math"
	"math/big"
	"slices"
	"testing"

	"quern/api"
)

// kinds are the two that are; noKinds are some that are none.
var (
	kinds   = []api.Kind{api.Big, api.Small}
	noKinds = []api.Kind{0, 3, -1, math.MinInt, math.MaxInt}
)

const (
	mostBytes = uint64(math.MaxUint64)
	mostLeaf  = uint32(math.MaxUint32)
)

// sizes are a kind's numbers, as the chapter's words tell them.
type sizes struct {
	most, salt int
}

func sizesOf(k api.Kind) sizes {
	if k == api.Small {
		return sizes{most: 32, salt: 8}
	}
	return sizes{most: 64, salt: 16}
}

func rising(n int) []byte {
	b := make([]byte, n)
	for i := range b {
		b[i] = byte(i + 1)
	}
	return b
}

// grown tells a tree that may be, with all of its fields told.
func grown(k api.Kind, fanout, depth int, leaf uint32) api.Tree {
	z := sizesOf(k)
	return api.Tree{
		Kind: k, Digest: z.most - 1, Fanout: fanout, Depth: depth, Leaf: leaf, Inner: z.most / 2,
		Key: rising(5), Salt: rising(z.salt), Personal: bytes.Repeat([]byte{0xb5}, z.salt),
	}
}

// plain tells the tree of the chapter's examples.
func plain(fanout, depth int) api.Tree {
	return api.Tree{Kind: api.Big, Digest: 32, Fanout: fanout, Depth: depth, Leaf: 4, Inner: 32}
}

// up tells n / size, rounded up, of numbers without a bound.
func up(n *big.Int, size uint64) *big.Int {
	s := new(big.Int).SetUint64(size)
	whole, rest := new(big.Int).DivMod(n, s, new(big.Int))
	if rest.Sign() != 0 {
		whole.Add(whole, big.NewInt(1))
	}
	return whole
}

// rightRows tells the rows as the chapter's words have them, in numbers without a bound.
func rightRows(t api.Tree, total uint64) []*big.Int {
	one := big.NewInt(1)
	n := up(new(big.Int).SetUint64(total), uint64(t.Leaf))
	if total == 0 {
		n = one
	}
	rows := []*big.Int{n}
	for {
		switch {
		case len(rows) == t.Depth-1, t.Fanout == 0:
			n = one
		default:
			n = up(n, uint64(t.Fanout))
		}
		rows = append(rows, n)
		if n.Cmp(one) == 0 {
			return rows
		}
	}
}

// refused tells whether total bytes are too many for a Small tree.
func refused(t api.Tree, total uint64) bool {
	return t.Kind == api.Small && rightRows(t, total)[0].Cmp(new(big.Int).Lsh(big.NewInt(1), 48)) > 0
}

// fair tells the rows of a message that is not refused.
func fair(t api.Tree, total uint64) []uint64 {
	var rows []uint64
	for _, n := range rightRows(t, total) {
		rows = append(rows, n.Uint64())
	}
	return rows
}

// rightSpots tells the spots of all nodes of a tree of few of them, dealt out one by one.
func rightSpots(t api.Tree, total uint64) [][]api.Spot {
	rows := fair(t, total)
	all := make([][]api.Spot, len(rows))
	for row, nodes := range rows {
		below, each := total, uint64(t.Leaf)
		if row > 0 {
			below, each = rows[row-1], uint64(t.Fanout)
		}
		root := row == len(rows)-1
		from := uint64(0)
		for at := range nodes {
			to := from
			for to < below && (root || to-from < each) {
				to++
			}
			all[row] = append(all[row], api.Spot{Row: row, At: at, From: from, To: to, Last: at+1 == nodes, Root: root})
			from = to
		}
	}
	return all
}

// totals are numbers of bytes at which a tree turns: around its leaves, around its full rows, and the greatest.
func totals(t api.Tree) []uint64 {
	leaf := uint64(t.Leaf)
	list := []uint64{0, 1, 2, leaf - 1, leaf, leaf + 1, 2*leaf - 1, 2 * leaf, 2*leaf + 1, 1<<48 - 1, 1 << 48, 1<<48 + 1, 1 << 63, 1<<63 + 1, mostBytes - 1, mostBytes}
	if t.Fanout == 0 {
		return append(list, 100*leaf, 255*leaf+1)
	}
	full := new(big.Int).SetUint64(leaf)
	for {
		full.Mul(full, big.NewInt(int64(t.Fanout)))
		if !full.IsUint64() {
			return list
		}
		n := full.Uint64()
		list = append(list, n-1, n, n+1, n-leaf, n-leaf+1)
	}
}

// trees are of both kinds, with each Fanout, Depth and Leaf at its edges, in every mixture.
func trees() []api.Tree {
	var list []api.Tree
	for _, k := range kinds {
		for _, fanout := range []int{0, 2, 3, 16, 254, 255} {
			for _, depth := range []int{2, 3, 4, 7, 64, 65, 66, 254, 255} {
				for _, leaf := range []uint32{1, 2, 3, 4, 1 << 16, 1<<16 + 1, 1 << 31, mostLeaf - 1, mostLeaf} {
					list = append(list, grown(k, fanout, depth, leaf))
				}
			}
		}
	}
	return list
}

// fault is a tree that can't be, and why.
type fault struct {
	what string
	tree api.Tree
	why  api.Errno
}

// with tells a tree that may be, changed.
func with(k api.Kind, change func(*api.Tree)) api.Tree {
	t := grown(k, 2, 255, 4)
	change(&t)
	return t
}

// faults are each field's one beyond either end and further out, alone and ahead of all that is looked at later.
func faults() []fault {
	var list []fault
	for _, k := range noKinds {
		list = append(list,
			fault{"kind", with(api.Small, func(t *api.Tree) { t.Kind = k }), api.ErrArg},
			fault{"kind and all", api.Tree{Kind: k, Fanout: 1, Key: rising(65), Salt: rising(3)}, api.ErrArg})
	}
	for _, k := range kinds {
		z := sizesOf(k)
		add := func(what string, why api.Errno, change func(*api.Tree)) {
			list = append(list, fault{what, with(k, change), why})
		}
		behind := func(t *api.Tree) { t.Key, t.Salt, t.Personal = rising(z.most+1), rising(1), rising(1) }
		number := func(what string, field func(*api.Tree) *int, wrong ...int) {
			for _, n := range append(wrong, -1, 256, 257, 258, 1<<32+2, math.MinInt, math.MaxInt) {
				add(what, api.ErrTree, func(t *api.Tree) { *field(t) = n })
				add(what+" and all behind", api.ErrTree, func(t *api.Tree) { *field(t) = n; behind(t) })
			}
		}
		number("digest", func(t *api.Tree) *int { return &t.Digest }, 0, z.most+1)
		number("inner", func(t *api.Tree) *int { return &t.Inner }, 0, z.most+1)
		number("fanout", func(t *api.Tree) *int { return &t.Fanout }, 1)
		number("depth", func(t *api.Tree) *int { return &t.Depth }, 0, 1)
		add("leaf", api.ErrTree, func(t *api.Tree) { t.Leaf = 0 })
		add("leaf and all behind", api.ErrTree, func(t *api.Tree) { t.Leaf = 0; behind(t) })
		add("all but the kind", api.ErrTree, func(t *api.Tree) { *t = api.Tree{Kind: k, Fanout: 1}; behind(t) })
		for _, n := range []int{z.most + 1, 100, 256, 257, 1 << 16} {
			add("key", api.ErrKey, func(t *api.Tree) { t.Key = rising(n) })
			add("a key of noughts", api.ErrKey, func(t *api.Tree) { t.Key = make([]byte, n) })
			add("key and all behind", api.ErrKey, func(t *api.Tree) { behind(t); t.Key = rising(n) })
		}
		for n := range 300 {
			if n == 0 || n == z.salt {
				continue
			}
			add("salt", api.ErrTree, func(t *api.Tree) { t.Salt = rising(n) })
			add("a salt of noughts", api.ErrTree, func(t *api.Tree) { t.Salt = make([]byte, n) })
			add("personal", api.ErrTree, func(t *api.Tree) { t.Personal = rising(n) })
			add("a personal of noughts", api.ErrTree, func(t *api.Tree) { t.Salt, t.Personal = nil, make([]byte, n) })
		}
	}
	return list
}

func wantErrno(t *testing.T, what string, e, right api.Errno) {
	t.Helper()
	if e != right {
		t.Errorf("%s: error %d, want %d", what, e, right)
	}
}

func wantNumber(t *testing.T, what string, got uint64, e api.Errno, right uint64) {
	t.Helper()
	if e != api.OK || got != right {
		t.Errorf("%s: %d, error %d, want %d", what, got, e, right)
	}
}

func wantRows(t *testing.T, what string, got []uint64, e api.Errno, right []uint64) {
	t.Helper()
	if e != api.OK || !slices.Equal(got, right) {
		t.Errorf("%s: %d, error %d, want %d", what, got, e, right)
	}
}

func wantSpot(t *testing.T, what string, got api.Spot, e api.Errno, right api.Spot) {
	t.Helper()
	if e != api.OK || got != right {
		t.Errorf("%s: %v, error %d, want %v", what, got, e, right)
	}
}

func wantMost(t *testing.T, what string, got uint64, found bool, e api.Errno, right uint64, rightFound bool) {
	t.Helper()
	if e != api.OK || got != right || found != rightFound {
		t.Errorf("%s: %d %v, error %d, want %d %v", what, got, found, e, right, rightFound)
	}
}

// sameParams tells whether parameters are alike in every field, nil and empty lists being one.
func sameParams(p, q api.Params) bool {
	return p.Digest == q.Digest && p.Key == q.Key && p.Fanout == q.Fanout && p.Depth == q.Depth && p.Leaf == q.Leaf && p.Offset == q.Offset && p.Xof == q.Xof && p.NodeDepth == q.NodeDepth && p.Inner == q.Inner && bytes.Equal(p.Salt, q.Salt) && bytes.Equal(p.Personal, q.Personal)
}

func wantParams(t *testing.T, what string, got api.Params, e api.Errno, right api.Params) {
	t.Helper()
	if e != api.OK || !sameParams(got, right) {
		t.Errorf("%s: %v, error %d, want %v", what, got, e, right)
	}
}

// wantNothing asks all calls that are handed a node's place, and wants this error and zero values of each.
func wantNothing(t *testing.T, what string, tree api.Tree, total uint64, row int, at uint64, why api.Errno) {
	t.Helper()
	if s, e := Spot(tree, total, row, at); s != (api.Spot{}) || e != why {
		t.Errorf("Spot, %s: %v, error %d, want %d", what, s, e, why)
	}
	if n, e := Parent(tree, total, row, at); n != 0 || e != why {
		t.Errorf("Parent, %s: %d, error %d, want %d", what, n, e, why)
	}
	if p, e := Params(tree, total, row, at); !sameParams(p, api.Params{}) || e != why {
		t.Errorf("Params, %s: %v, error %d, want %d", what, p, e, why)
	}
}

// wantNoRows asks all calls that are handed a number of bytes alone, likewise.
func wantNoRows(t *testing.T, what string, tree api.Tree, total uint64, why api.Errno) {
	t.Helper()
	if n, e := Leaves(tree, total); n != 0 || e != why {
		t.Errorf("Leaves, %s: %d, error %d, want %d", what, n, e, why)
	}
	if l, e := Rows(tree, total); len(l) != 0 || e != why {
		t.Errorf("Rows, %s: %d, error %d, want %d", what, l, e, why)
	}
	if n, e := Nodes(tree, total); n != 0 || e != why {
		t.Errorf("Nodes, %s: %d, error %d, want %d", what, n, e, why)
	}
}

// roomy lays b into a longer list, with marks in the room behind its end; still tells whether it is all as it was.
func roomy(b []byte) (list []byte, still func() bool) {
	whole := append(bytes.Clone(b), bytes.Repeat([]byte{0xa5}, 300)...)
	before := bytes.Clone(whole)
	return whole[:len(b)], func() bool { return bytes.Equal(whole, before) }
}

// spoil overwrites a list and the room behind its end.
func spoil(b []byte) {
	whole := b[:cap(b)]
	for i := range whole {
		whole[i] ^= 0xff
	}
}
