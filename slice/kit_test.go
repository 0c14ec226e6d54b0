package slice_test

import (
	"bytes"
	"fmt"
	"math"
	"testing"

	"quern/api"
	"quern/slice"
)

// kinds are the two that are; noKinds are some that are none.
var (
	kinds   = []api.Kind{api.Big, api.Small}
	noKinds = []api.Kind{0, 3, -1, math.MinInt, math.MaxInt}
)

const mostNumber = uint64(math.MaxUint64)

// sizes are a kind's numbers, as the chapters' words tell them.
type sizes struct {
	most, salt int
}

func sizesOf(k api.Kind) sizes {
	if k == api.Small {
		return sizes{most: 32, salt: 8}
	}
	return sizes{most: 64, salt: 16}
}

func rising(n int) []byte {
	b := make([]byte, n)
	for i := range b {
		b[i] = byte(i + 1)
	}
	return b
}

func pattern(n int) []byte {
	b := make([]byte, n)
	for i := range b {
		b[i] = byte((i*i + 3*i) % 251)
	}
	return b
}

// plan is the tree of the chapter's examples.
func plan() api.Tree {
	return api.Tree{Kind: api.Small, Digest: 32, Fanout: 2, Depth: 9, Leaf: 2, Inner: 8}
}

// bare tells a tree without key, salt and personal.
func bare(k api.Kind, fanout, depth int, leaf uint32) api.Tree {
	z := sizesOf(k)
	return api.Tree{Kind: k, Digest: z.most, Fanout: fanout, Depth: depth, Leaf: leaf, Inner: z.most / 4}
}

// grown tells a tree with all of its fields told.
func grown(k api.Kind, fanout, depth int, leaf uint32) api.Tree {
	z := sizesOf(k)
	return api.Tree{
		Kind: k, Digest: z.most - 1, Fanout: fanout, Depth: depth, Leaf: leaf, Inner: 5,
		Key: rising(5), Salt: rising(z.salt), Personal: bytes.Repeat([]byte{0xb5}, z.salt),
	}
}

// weak tells a tree whose digests have one byte, so that unlike calls meet at once.
func weak(k api.Kind, fanout, depth int, leaf uint32) api.Tree {
	return api.Tree{Kind: k, Digest: 1, Fanout: fanout, Depth: depth, Leaf: leaf, Inner: 1}
}

// dressed tells a tree with a key, a salt and a personal.
func dressed(x api.Tree) api.Tree {
	z := sizesOf(x.Kind)
	x.Key, x.Salt, x.Personal = rising(7), pattern(z.salt), rising(z.salt)
	return x
}

// named tells a tree by what makes it.
func named(x api.Tree) string {
	return fmt.Sprintf("kind %d, digest %d, fanout %d, depth %d, leaf %d, inner %d, key %d", x.Kind, x.Digest, x.Fanout, x.Depth, x.Leaf, x.Inner, len(x.Key))
}

// trees are some of both kinds: with rows of few and of many nodes, with all fields told and with few, with Digest, Inner and Key at their edges.
func trees(leaves ...uint32) []api.Tree {
	var list []api.Tree
	for _, k := range kinds {
		z := sizesOf(k)
		for _, leaf := range leaves {
			for _, x := range [][2]int{{0, 2}, {0, 255}, {2, 2}, {2, 3}, {2, 255}, {3, 4}, {255, 255}} {
				list = append(list, bare(k, x[0], x[1], leaf), grown(k, x[0], x[1], leaf))
			}
			add := func(change func(*api.Tree)) {
				t := bare(k, 2, 255, leaf)
				change(&t)
				list = append(list, t)
			}
			add(func(t *api.Tree) { t.Digest, t.Inner = z.most, 1 })
			add(func(t *api.Tree) { t.Digest, t.Inner = 1, z.most })
			add(func(t *api.Tree) { t.Digest, t.Inner = 1, 1 })
			add(func(t *api.Tree) { t.Key = rising(z.most) })
			add(func(t *api.Tree) { t.Key = make([]byte, 1) })
			add(func(t *api.Tree) { t.Salt, t.Personal = make([]byte, z.salt), make([]byte, z.salt) })
		}
	}
	return list
}

// lengths are those of messages at which a tree turns: no byte, one, around its leaves and its full rows.
func lengths(x api.Tree) []int {
	leaf := int(x.Leaf)
	seen := map[int]bool{}
	var list []int
	add := func(more ...int) {
		for _, n := range more {
			if !seen[n] && n >= 0 {
				seen[n] = true
				list = append(list, n)
			}
		}
	}
	add(0, 1, leaf-1, leaf, leaf+1, 2*leaf-1, 2*leaf, 2*leaf+1, 3*leaf, 4*leaf+1, 5*leaf, 11*leaf+1)
	if x.Fanout > 0 && x.Fanout < 10 {
		for full := leaf * x.Fanout; full <= 10*leaf; full *= x.Fanout {
			add(full-leaf, full-1, full, full+1, full+leaf, full+leaf+1)
		}
	}
	return list
}

// fault is a tree that may not be, and why.
type fault struct {
	what string
	tree api.Tree
	why  api.Errno
}

// faults are each field's ends, alone and ahead of all that is looked at later.
func faults() []fault {
	var list []fault
	for _, k := range noKinds {
		list = append(list,
			fault{"kind", api.Tree{Kind: k, Digest: 1, Fanout: 2, Depth: 2, Leaf: 1, Inner: 1}, api.ErrArg},
			fault{"kind and all", api.Tree{Kind: k, Fanout: 1, Key: rising(65), Salt: rising(3)}, api.ErrArg})
	}
	for _, k := range kinds {
		z := sizesOf(k)
		add := func(what string, why api.Errno, change func(*api.Tree)) {
			tree := grown(k, 2, 255, 4)
			change(&tree)
			list = append(list, fault{what, tree, why})
		}
		behind := func(t *api.Tree) { t.Key, t.Salt = rising(z.most+1), rising(1) }
		number := func(what string, field func(*api.Tree) *int, wrong ...int) {
			for _, n := range append(wrong, -1, 256, math.MinInt, math.MaxInt) {
				add(what, api.ErrTree, func(t *api.Tree) { *field(t) = n })
				add(what+" and all behind", api.ErrTree, func(t *api.Tree) { *field(t) = n; behind(t) })
			}
		}
		number("digest", func(t *api.Tree) *int { return &t.Digest }, 0, z.most+1)
		number("inner", func(t *api.Tree) *int { return &t.Inner }, 0, z.most+1)
		number("fanout", func(t *api.Tree) *int { return &t.Fanout }, 1)
		number("depth", func(t *api.Tree) *int { return &t.Depth }, 0, 1)
		add("leaf", api.ErrTree, func(t *api.Tree) { t.Leaf = 0 })
		add("key", api.ErrKey, func(t *api.Tree) { t.Key = rising(z.most + 1) })
		add("key and all behind", api.ErrKey, behind)
		for _, n := range []int{1, z.salt - 1, z.salt + 1} {
			add("salt", api.ErrTree, func(t *api.Tree) { t.Salt = rising(n) })
			add("personal", api.ErrTree, func(t *api.Tree) { t.Personal = make([]byte, n) })
		}
	}
	return list
}

func wantBytes(t testing.TB, what string, got []byte, e api.Errno, right []byte) {
	t.Helper()
	if e != api.OK || !bytes.Equal(got, right) {
		t.Errorf("%s: %x, error %d, want %x", what, got, e, right)
	}
}

func wantErrno(t testing.TB, what string, e, right api.Errno) {
	t.Helper()
	if e != right {
		t.Errorf("%s: error %d, want %d", what, e, right)
	}
}

// wantRead holds what Read answers.
func wantRead(t testing.TB, what string, x api.Tree, digest, laid, data []byte, at int, why api.Errno) {
	t.Helper()
	got, place, e := slice.Read(x, digest, laid)
	if !bytes.Equal(got, data) || place != at || e != why {
		t.Errorf("Read, %s: %x at %d, error %d, want %x at %d, error %d", what, got, place, e, data, at, why)
	}
}

// wantPart holds what Part answers.
func wantPart(t testing.TB, what string, x api.Tree, laid []byte, from, n uint64, part []byte, at int, why api.Errno) {
	t.Helper()
	got, place, e := slice.Part(x, laid, from, n)
	if !bytes.Equal(got, part) || place != at || e != why {
		t.Errorf("Part from %d, %d, %s: %x at %d, error %d, want %x at %d, error %d", from, n, what, got, place, e, part, at, why)
	}
}

// wantReadPart holds what ReadPart answers.
func wantReadPart(t testing.TB, what string, x api.Tree, digest, part []byte, from, n uint64, data []byte, total uint64, at int, why api.Errno) {
	t.Helper()
	got, all, place, e := slice.ReadPart(x, digest, part, from, n)
	if !bytes.Equal(got, data) || all != total || place != at || e != why {
		t.Errorf("ReadPart from %d, %d, %s: %x of %d at %d, error %d, want %x of %d at %d, error %d", from, n, what, got, all, place, e, data, total, at, why)
	}
}

func isZero(c api.Call) bool {
	return c.Kind == 0 && len(c.Block) == 0 && len(c.Key) == 0 && !c.Last && c.Out == 0 && len(c.Data) == 0
}

// sameCall tells whether two calls are alike, a list without a byte being none.
func sameCall(a, b api.Call) bool {
	return a.Kind == b.Kind && a.Last == b.Last && a.Out == b.Out && bytes.Equal(a.Block, b.Block) && bytes.Equal(a.Key, b.Key) && bytes.Equal(a.Data, b.Data)
}

// wantNoClash holds that Clash refuses by this error.
func wantNoClash(t testing.TB, what string, x api.Tree, data, part []byte, from, n uint64, why api.Errno) {
	t.Helper()
	a, b, e := slice.Clash(x, data, part, from, n)
	if !isZero(a) || !isZero(b) || e != why {
		t.Errorf("Clash from %d, %d, %s: %v, %v, error %d, want %d", from, n, what, a, b, e, why)
	}
}

func readerOf(t testing.TB, x api.Tree, digest []byte) *slice.Reader {
	t.Helper()
	r, e := slice.New(x, digest)
	if r == nil || e != api.OK {
		t.Fatalf("New, %s: %v, error %d", named(x), r, e)
	}
	return r
}

// chance tells numbers that look like chance, and are the same each time.
type chance uint64

func (c *chance) next() uint64 {
	*c += 0x9e3779b97f4a7c15
	x := uint64(*c)
	x = (x ^ x>>30) * 0xbf58476d1ce4e5b9
	x = (x ^ x>>27) * 0x94d049bb133111eb
	return x ^ x>>31
}

func (c *chance) below(n int) int {
	return int(c.next() % uint64(n))
}

func (c *chance) bytes(n int) []byte {
	b := make([]byte, n)
	for i := range b {
		b[i] = byte(c.next())
	}
	return b
}
