package crew

import (
	"bytes"
	"math"
	"slices"
	"testing"

	"quern/api"
	"quern/shape"
	"quern/tree"
)

// kinds are the two that are; noKinds are some that are none.
var (
	kinds   = []api.Kind{api.Big, api.Small}
	noKinds = []api.Kind{0, 3, -1, math.MinInt, math.MaxInt}
)

// sizes are a kind's numbers, as the chapters' words tell them.
type sizes struct {
	most, salt, block int
}

func sizesOf(k api.Kind) sizes {
	if k == api.Small {
		return sizes{most: 32, salt: 8, block: 64}
	}
	return sizes{most: 64, salt: 16, block: 128}
}

func rising(n int) []byte {
	b := make([]byte, n)
	for i := range b {
		b[i] = byte(i + 1)
	}
	return b
}

func pattern(n int) []byte {
	b := make([]byte, n)
	for i := range b {
		b[i] = byte((i*i + 3*i) % 251)
	}
	return b
}

// bare tells a tree without key, salt and personal.
func bare(k api.Kind, fanout, depth int, leaf uint32) api.Tree {
	z := sizesOf(k)
	return api.Tree{Kind: k, Digest: z.most, Fanout: fanout, Depth: depth, Leaf: leaf, Inner: z.most / 2}
}

// grown tells a tree with all of its fields told.
func grown(k api.Kind, fanout, depth int, leaf uint32) api.Tree {
	z := sizesOf(k)
	return api.Tree{
		Kind: k, Digest: z.most - 1, Fanout: fanout, Depth: depth, Leaf: leaf, Inner: z.most / 4,
		Key: rising(5), Salt: rising(z.salt), Personal: bytes.Repeat([]byte{0xb5}, z.salt),
	}
}

// trees are some of both kinds, whose leaves have four bytes: with rows of few and of many nodes, with all fields told and with few, with Digest, Inner and Key at their edges.
func trees() []api.Tree {
	var list []api.Tree
	for _, k := range kinds {
		z := sizesOf(k)
		for _, x := range [][2]int{{0, 2}, {0, 255}, {2, 2}, {2, 3}, {2, 255}, {3, 4}, {255, 255}} {
			list = append(list, bare(k, x[0], x[1], 4), grown(k, x[0], x[1], 4))
		}
		add := func(change func(*api.Tree)) {
			t := bare(k, 2, 255, 4)
			change(&t)
			list = append(list, t)
		}
		add(func(t *api.Tree) { t.Digest, t.Inner = z.most, 1 })
		add(func(t *api.Tree) { t.Digest, t.Inner = 1, z.most })
		add(func(t *api.Tree) { t.Key = rising(z.most) })
		add(func(t *api.Tree) { t.Key = make([]byte, 1) })
		add(func(t *api.Tree) { t.Salt, t.Personal = make([]byte, z.salt), make([]byte, z.salt) })
	}
	return list
}

// greatest tells a tree whose every field is at its upper end.
func greatest(k api.Kind) api.Tree {
	z := sizesOf(k)
	return api.Tree{
		Kind: k, Digest: z.most, Fanout: 255, Depth: 255, Leaf: math.MaxUint32, Inner: z.most,
		Key: rising(z.most), Salt: rising(z.salt), Personal: rising(z.salt),
	}
}

// least tells a tree whose every field is at its lower end.
func least(k api.Kind) api.Tree {
	return api.Tree{Kind: k, Digest: 1, Fanout: 0, Depth: 2, Leaf: 1, Inner: 1}
}

// fault is a tree that may not be, and why.
type fault struct {
	what string
	tree api.Tree
	why  api.Errno
}

// faults are each field's ends, alone and ahead of all that is looked at later.
func faults() []fault {
	var list []fault
	for _, k := range noKinds {
		list = append(list,
			fault{"kind", api.Tree{Kind: k, Digest: 1, Fanout: 2, Depth: 2, Leaf: 1, Inner: 1}, api.ErrArg},
			fault{"kind and all", api.Tree{Kind: k, Fanout: 1, Key: rising(65), Salt: rising(3)}, api.ErrArg})
	}
	for _, k := range kinds {
		z := sizesOf(k)
		add := func(what string, why api.Errno, change func(*api.Tree)) {
			tree := grown(k, 2, 255, 4)
			change(&tree)
			list = append(list, fault{what, tree, why})
		}
		behind := func(t *api.Tree) { t.Key, t.Salt = rising(z.most+1), rising(1) }
		number := func(what string, field func(*api.Tree) *int, wrong ...int) {
			for _, n := range append(wrong, -1, 256, math.MinInt, math.MaxInt) {
				add(what, api.ErrTree, func(t *api.Tree) { *field(t) = n })
				add(what+" and all behind", api.ErrTree, func(t *api.Tree) { *field(t) = n; behind(t) })
			}
		}
		number("digest", func(t *api.Tree) *int { return &t.Digest }, 0, z.most+1)
		number("inner", func(t *api.Tree) *int { return &t.Inner }, 0, z.most+1)
		number("fanout", func(t *api.Tree) *int { return &t.Fanout }, 1)
		number("depth", func(t *api.Tree) *int { return &t.Depth }, 0, 1)
		add("leaf", api.ErrTree, func(t *api.Tree) { t.Leaf = 0 })
		add("key", api.ErrKey, func(t *api.Tree) { t.Key = rising(z.most + 1) })
		add("key and all behind", api.ErrKey, behind)
		for _, n := range []int{1, z.salt - 1, z.salt + 1} {
			add("salt", api.ErrTree, func(t *api.Tree) { t.Salt = rising(n) })
			add("personal", api.ErrTree, func(t *api.Tree) { t.Personal = make([]byte, n) })
		}
	}
	return list
}

func poolOf(workers, queue int) api.Pool {
	return api.Pool{Workers: workers, Queue: queue}
}

// pools are some that may be, at all edges.
func pools() []api.Pool {
	return []api.Pool{
		poolOf(1, 1), poolOf(2, 1), poolOf(1, 2), poolOf(3, 4), poolOf(17, 5),
		poolOf(api.MaxWorkers, 1), poolOf(1, api.MaxRoom), poolOf(api.MaxWorkers, api.MaxRoom),
	}
}

// noPools are some that may not be: one number wrong, or both.
func noPools() []api.Pool {
	var list []api.Pool
	wrongWorkers := []int{0, api.MaxWorkers + 1, -1, math.MinInt, math.MaxInt}
	wrongQueues := []int{0, api.MaxRoom + 1, -1, math.MinInt, math.MaxInt}
	for _, workers := range wrongWorkers {
		for _, queue := range append([]int{1, api.MaxRoom}, wrongQueues...) {
			list = append(list, poolOf(workers, queue))
		}
	}
	for _, queue := range wrongQueues {
		for _, workers := range []int{1, api.MaxWorkers} {
			list = append(list, poolOf(workers, queue))
		}
	}
	return list
}

// lengths are those of messages at which a tree with leaves of four bytes turns: no byte, one, a leaf, one more, several rows.
var lengths = []int{0, 1, 3, 4, 5, 7, 8, 9, 12, 13, 16, 17, 33, 64, 65, 100, 257}

// sure tells an answer that comes without an error.
func sure[T any](t testing.TB, what string, answer T, e api.Errno) T {
	t.Helper()
	if e != api.OK {
		t.Fatalf("%s: error %d", what, e)
	}
	return answer
}

func hashOf(t testing.TB, plan api.Tree, data []byte) []byte {
	t.Helper()
	digest, e := tree.Hash(plan, data)
	return sure(t, "tree.Hash", digest, e)
}

func rowsOf(t testing.TB, plan api.Tree, n int) []uint64 {
	t.Helper()
	rows, e := shape.Rows(plan, uint64(n))
	return sure(t, "shape.Rows", rows, e)
}

func crewOf(t testing.TB, plan api.Tree, p api.Pool) *Crew {
	t.Helper()
	c, e := New(plan, p)
	if c == nil {
		t.Fatalf("New: nil, error %d", e)
	}
	return sure(t, "New", c, e)
}

func wantErrno(t *testing.T, what string, e, right api.Errno) {
	t.Helper()
	if e != right {
		t.Errorf("%s: error %d, want %d", what, e, right)
	}
}

func wantBytes(t *testing.T, what string, got []byte, e api.Errno, right []byte) {
	t.Helper()
	if e != api.OK || !bytes.Equal(got, right) {
		t.Errorf("%s: %x, error %d, want %x", what, got, e, right)
	}
}

func wantNone(t *testing.T, what string, got []byte, e, right api.Errno) {
	t.Helper()
	if e != right || len(got) != 0 {
		t.Errorf("%s: %x, error %d, want none and %d", what, got, e, right)
	}
}

func wantLists(t *testing.T, what string, got [][]byte, e api.Errno, right [][]byte) {
	t.Helper()
	if e != api.OK || !slices.EqualFunc(got, right, bytes.Equal) {
		t.Errorf("%s: %x, error %d, want %x", what, got, e, right)
	}
}

// wantCrew asks all that an open crew tells, when just these bytes were written.
func wantCrew(t *testing.T, what string, c *Crew, plan api.Tree, data []byte) {
	t.Helper()
	digest, e := c.Sum()
	wantBytes(t, what+": Sum", digest, e, hashOf(t, plan, data))
	if got := c.Written(); got != uint64(len(data)) {
		t.Errorf("%s: Written %d, want %d", what, got, len(data))
	}
	if got, right := c.Rows(), rowsOf(t, plan, len(data)); !slices.Equal(got, right) {
		t.Errorf("%s: Rows %d, want %d", what, got, right)
	}
	if c.Closed() {
		t.Errorf("%s: Closed", what)
	}
}

// wantDead asks all calls of a crew that can't be worked with: each refuses by this error.
func wantDead(t *testing.T, what string, c *Crew, why, whyClose api.Errno, closed bool) {
	t.Helper()
	for range 2 {
		for _, b := range [][]byte{nil, {}, {1}, pattern(100)} {
			wantErrno(t, what+": Write", c.Write(b), why)
		}
		digest, e := c.Sum()
		wantNone(t, what+": Sum", digest, e, why)
		wantErrno(t, what+": Reset", c.Reset(), why)
		if c.Written() != 0 || len(c.Rows()) != 0 || c.Closed() != closed {
			t.Errorf("%s: Written %d, Rows %d, Closed %v", what, c.Written(), c.Rows(), c.Closed())
		}
		wantErrno(t, what+": Close", c.Close(), whyClose)
	}
}

func wantShut(t *testing.T, what string, c *Crew) {
	t.Helper()
	wantDead(t, what, c, api.ErrShut, api.OK, true)
}

// chance tells numbers that look like chance, and are the same each time.
type chance uint64

func (c *chance) next() uint64 {
	*c += 0x9e3779b97f4a7c15
	x := uint64(*c)
	x = (x ^ x>>30) * 0xbf58476d1ce4e5b9
	x = (x ^ x>>27) * 0x94d049bb133111eb
	return x ^ x>>31
}

func (c *chance) below(n int) int {
	return int(c.next() % uint64(n))
}
