package live

import (
	"bytes"
	"math"
	"slices"
	"testing"

	"quern/api"
	"quern/node"
	"quern/param"
	"quern/tree"
)

// kinds are the two that are; noKinds are some that are none.
var (
	kinds   = []api.Kind{api.Big, api.Small}
	noKinds = []api.Kind{0, 3, -1, math.MinInt, math.MaxInt}
)

// noTries are some numbers of tries that may not be.
var noTries = []int{0, -1, api.MaxTries + 1, math.MinInt, math.MaxInt}

// sizes are a kind's numbers, as the chapters' words tell them.
type sizes struct {
	most, salt, block int
}

func sizesOf(k api.Kind) sizes {
	if k == api.Small {
		return sizes{most: 32, salt: 8, block: 64}
	}
	return sizes{most: 64, salt: 16, block: 128}
}

func rising(n int) []byte {
	b := make([]byte, n)
	for i := range b {
		b[i] = byte(i + 1)
	}
	return b
}

func pattern(n int) []byte {
	b := make([]byte, n)
	for i := range b {
		b[i] = byte((i*i + 3*i) % 251)
	}
	return b
}

// bare tells a tree without key, salt and personal.
func bare(k api.Kind, fanout, depth int, leaf uint32) api.Tree {
	z := sizesOf(k)
	return api.Tree{Kind: k, Digest: z.most, Fanout: fanout, Depth: depth, Leaf: leaf, Inner: z.most / 2}
}

// grown tells a tree with all of its fields told.
func grown(k api.Kind, fanout, depth int, leaf uint32) api.Tree {
	z := sizesOf(k)
	return api.Tree{
		Kind: k, Digest: z.most - 1, Fanout: fanout, Depth: depth, Leaf: leaf, Inner: z.most / 4,
		Key: rising(5), Salt: rising(z.salt), Personal: bytes.Repeat([]byte{0xb5}, z.salt),
	}
}

// trees are some of both kinds, whose leaves have four bytes: with rows of few and of many nodes, with all fields told and with few, with Digest, Inner and Key at their edges.
func trees() []api.Tree {
	var list []api.Tree
	for _, k := range kinds {
		z := sizesOf(k)
		for _, x := range [][2]int{{0, 2}, {2, 2}, {2, 3}, {2, 255}, {3, 4}, {255, 255}} {
			list = append(list, bare(k, x[0], x[1], 4), grown(k, x[0], x[1], 4))
		}
		add := func(change func(*api.Tree)) {
			t := bare(k, 2, 255, 4)
			change(&t)
			list = append(list, t)
		}
		add(func(t *api.Tree) { t.Digest, t.Inner = z.most, 1 })
		add(func(t *api.Tree) { t.Digest, t.Inner = 1, z.most })
		add(func(t *api.Tree) { t.Key = rising(z.most) })
		add(func(t *api.Tree) { t.Key = make([]byte, 1) })
		add(func(t *api.Tree) { t.Salt, t.Personal = make([]byte, z.salt), make([]byte, z.salt) })
	}
	return list
}

// fault is a tree that may not be, and why.
type fault struct {
	what string
	tree api.Tree
	why  api.Errno
}

// faults are each field's ends, alone and ahead of all that is looked at later.
func faults() []fault {
	var list []fault
	for _, k := range noKinds {
		list = append(list,
			fault{"kind", api.Tree{Kind: k, Digest: 1, Fanout: 2, Depth: 2, Leaf: 1, Inner: 1}, api.ErrArg},
			fault{"kind and all", api.Tree{Kind: k, Fanout: 1, Key: rising(65), Salt: rising(3)}, api.ErrArg})
	}
	for _, k := range kinds {
		z := sizesOf(k)
		add := func(what string, why api.Errno, change func(*api.Tree)) {
			tree := grown(k, 2, 255, 4)
			change(&tree)
			list = append(list, fault{what, tree, why})
		}
		behind := func(t *api.Tree) { t.Key, t.Salt = rising(z.most+1), rising(1) }
		number := func(what string, field func(*api.Tree) *int, wrong ...int) {
			for _, n := range append(wrong, -1, 256, math.MinInt, math.MaxInt) {
				add(what, api.ErrTree, func(t *api.Tree) { *field(t) = n })
				add(what+" and all behind", api.ErrTree, func(t *api.Tree) { *field(t) = n; behind(t) })
			}
		}
		number("digest", func(t *api.Tree) *int { return &t.Digest }, 0, z.most+1)
		number("inner", func(t *api.Tree) *int { return &t.Inner }, 0, z.most+1)
		number("fanout", func(t *api.Tree) *int { return &t.Fanout }, 1)
		number("depth", func(t *api.Tree) *int { return &t.Depth }, 0, 1)
		add("leaf", api.ErrTree, func(t *api.Tree) { t.Leaf = 0 })
		add("key", api.ErrKey, func(t *api.Tree) { t.Key = rising(z.most + 1) })
		add("key and all behind", api.ErrKey, behind)
		for _, n := range []int{1, z.salt - 1, z.salt + 1} {
			add("salt", api.ErrTree, func(t *api.Tree) { t.Salt = rising(n) })
			add("personal", api.ErrTree, func(t *api.Tree) { t.Personal = make([]byte, n) })
		}
	}
	return list
}

func poolOf(workers, queue int) api.Pool {
	return api.Pool{Workers: workers, Queue: queue}
}

// pools are some that may be, at all edges.
func pools() []api.Pool {
	return []api.Pool{
		poolOf(1, 1), poolOf(2, 1), poolOf(1, 2), poolOf(3, 4), poolOf(17, 5),
		poolOf(api.MaxWorkers, 1), poolOf(1, api.MaxRoom), poolOf(api.MaxWorkers, api.MaxRoom),
	}
}

// noPools are some that may not be: one number wrong, or both.
func noPools() []api.Pool {
	var list []api.Pool
	wrongWorkers := []int{0, api.MaxWorkers + 1, -1, math.MinInt, math.MaxInt}
	wrongQueues := []int{0, api.MaxRoom + 1, -1, math.MinInt, math.MaxInt}
	for _, workers := range wrongWorkers {
		for _, queue := range append([]int{1, api.MaxRoom}, wrongQueues...) {
			list = append(list, poolOf(workers, queue))
		}
	}
	for _, queue := range wrongQueues {
		for _, workers := range []int{1, api.MaxWorkers} {
			list = append(list, poolOf(workers, queue))
		}
	}
	return list
}

// rightDone is the chapter's words on one job: it is begun time by time, and each time it panics or tells.
func rightDone(t testing.TB, tries int, j api.Job) api.Done {
	t.Helper()
	p, e := param.Plain(j.Kind, j.Out, len(j.Key))
	if e != api.OK {
		return api.Done{Tries: 1, Why: e}
	}
	panics := max(0, j.Fails)
	for begun := 1; begun <= tries; begun++ {
		if panics > 0 {
			panics--
			continue
		}
		digest, e := node.Hash(j.Kind, p, j.Key, false, j.Out, j.Data)
		return api.Done{Digest: sure(t, "node.Hash", digest, e), Tries: begun}
	}
	return api.Done{Tries: tries, Why: api.ErrBroken}
}

func rightDones(t testing.TB, tries int, l []api.Job) []api.Done {
	t.Helper()
	var list []api.Done
	for _, j := range l {
		list = append(list, rightDone(t, tries, j))
	}
	return list
}

// rightFirst is the least place of a job whose work tells want, gone through one behind the other.
func rightFirst(t testing.TB, l []api.Job, want []byte) int {
	t.Helper()
	for at, j := range l {
		j.Fails = 0
		if d := rightDone(t, 1, j); d.Why == api.OK && bytes.Equal(d.Digest, want) {
			return at
		}
	}
	return -1
}

func sameDone(a, b api.Done) bool {
	return bytes.Equal(a.Digest, b.Digest) && a.Tries == b.Tries && a.Why == b.Why
}

func sameLists(a, b [][]byte) bool {
	return slices.EqualFunc(a, b, bytes.Equal)
}

// sure tells an answer that comes without an error.
func sure[T any](t testing.TB, what string, answer T, e api.Errno) T {
	t.Helper()
	if e != api.OK {
		t.Fatalf("%s: error %d", what, e)
	}
	return answer
}

func leavesOf(t testing.TB, plan api.Tree, data []byte) [][]byte {
	t.Helper()
	list, e := tree.Leaves(plan, data)
	return sure(t, "tree.Leaves", list, e)
}

func hashOf(t testing.TB, plan api.Tree, data []byte) []byte {
	t.Helper()
	digest, e := tree.Hash(plan, data)
	return sure(t, "tree.Hash", digest, e)
}

func wantDones(t *testing.T, what string, got []api.Done, e api.Errno, right []api.Done) {
	t.Helper()
	if e != api.OK || len(got) != len(right) {
		t.Errorf("%s: %d answers, error %d, want %d", what, len(got), e, len(right))
		return
	}
	for at := range got {
		if !sameDone(got[at], right[at]) {
			t.Errorf("%s: answer %d is %v, want %v", what, at, got[at], right[at])
		}
	}
}

func wantLists(t *testing.T, what string, got [][]byte, e api.Errno, right [][]byte) {
	t.Helper()
	if e != api.OK || !sameLists(got, right) {
		t.Errorf("%s: %x, error %d, want %x", what, got, e, right)
	}
}

func wantBytes(t *testing.T, what string, got []byte, e api.Errno, right []byte) {
	t.Helper()
	if e != api.OK || !bytes.Equal(got, right) {
		t.Errorf("%s: %x, error %d, want %x", what, got, e, right)
	}
}

func wantShaken(t *testing.T, what string, digest []byte, broken []int, e api.Errno, right []byte) {
	t.Helper()
	if e != api.OK || len(broken) != 0 || !bytes.Equal(digest, right) {
		t.Errorf("%s: %x, %v, error %d, want %x", what, digest, broken, e, right)
	}
}

func wantBroken(t *testing.T, what string, digest []byte, broken []int, e api.Errno, right []int) {
	t.Helper()
	if e != api.ErrBroken || len(digest) != 0 || !slices.Equal(broken, right) {
		t.Errorf("%s: %x, %v, error %d, want leaves %v", what, digest, broken, e, right)
	}
}

func wantFirst(t *testing.T, what string, got int, e api.Errno, right int) {
	t.Helper()
	if e != api.OK || got != right {
		t.Errorf("%s: %d, error %d, want %d", what, got, e, right)
	}
}

// chance tells numbers that look like chance, and are the same each time.
type chance uint64

func (c *chance) next() uint64 {
	*c += 0x9e3779b97f4a7c15
	x := uint64(*c)
	x = (x ^ x>>30) * 0xbf58476d1ce4e5b9
	x = (x ^ x>>27) * 0x94d049bb133111eb
	return x ^ x>>31
}

func (c *chance) below(n int) int {
	return int(c.next() % uint64(n))
}

// fails tells a number of failures: most often none, few or very many.
func (c *chance) fails() int {
	return []int{0, 0, 0, -1, 1, 2, 3, 7, 8, 9, math.MinInt, math.MaxInt}[c.below(12)]
}

// job tells any job: mostly one that may be, some whose kind, Out or Key can't be.
func (c *chance) job() api.Job {
	k := kinds[c.below(2)]
	z := sizesOf(k)
	j := api.Job{Kind: k, Out: 1 + c.below(z.most), Data: pattern(c.below(4 * z.block)), Fails: c.fails()}
	if c.below(2) == 0 {
		j.Key = rising(c.below(z.most + 1))
	}
	switch c.below(12) {
	case 0:
		j.Kind = noKinds[c.below(len(noKinds))]
	case 1:
		j.Out = []int{0, -1, z.most + 1, math.MinInt, math.MaxInt}[c.below(5)]
	case 2:
		j.Key = rising(z.most + 1 + c.below(40))
	}
	return j
}

func (c *chance) jobs(n int) []api.Job {
	list := make([]api.Job, n)
	for i := range list {
		list[i] = c.job()
	}
	return list
}
