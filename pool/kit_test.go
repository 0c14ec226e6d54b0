package pool

import (
	"bytes"
	"fmt"
	"math"
	"slices"
	"strconv"
	"strings"
	"testing"

	"quern/api"
	"quern/sched"
	"quern/tree"
)

// kinds are the two that are; noKinds are some that are none.
var (
	kinds   = []api.Kind{api.Big, api.Small}
	noKinds = []api.Kind{0, 3, -1, math.MinInt, math.MaxInt}
)

// sizes are a kind's numbers, as the chapters' words tell them.
type sizes struct {
	most, salt int
}

func sizesOf(k api.Kind) sizes {
	if k == api.Small {
		return sizes{most: 32, salt: 8}
	}
	return sizes{most: 64, salt: 16}
}

func rising(n int) []byte {
	b := make([]byte, n)
	for i := range b {
		b[i] = byte(i + 1)
	}
	return b
}

func pattern(n int) []byte {
	b := make([]byte, n)
	for i := range b {
		b[i] = byte((i*i + 3*i) % 251)
	}
	return b
}

// bare tells a tree without key, salt and personal.
func bare(k api.Kind, fanout, depth int, leaf uint32) api.Tree {
	z := sizesOf(k)
	return api.Tree{Kind: k, Digest: z.most, Fanout: fanout, Depth: depth, Leaf: leaf, Inner: z.most / 2}
}

// grown tells a tree with all of its fields told.
func grown(k api.Kind, fanout, depth int, leaf uint32) api.Tree {
	z := sizesOf(k)
	return api.Tree{
		Kind: k, Digest: z.most - 1, Fanout: fanout, Depth: depth, Leaf: leaf, Inner: z.most / 4,
		Key: rising(5), Salt: rising(z.salt), Personal: bytes.Repeat([]byte{0xb5}, z.salt),
	}
}

// trees are some of both kinds, whose leaves have two bytes: with rows of few and of many nodes, with all fields told and with few, with Digest and Inner at their edges.
func trees() []api.Tree {
	var list []api.Tree
	for _, k := range kinds {
		z := sizesOf(k)
		for _, x := range [][2]int{{0, 2}, {2, 2}, {2, 3}, {2, 255}, {3, 4}, {255, 255}} {
			list = append(list, bare(k, x[0], x[1], 2), grown(k, x[0], x[1], 2))
		}
		short, long := bare(k, 2, 255, 2), bare(k, 2, 255, 2)
		short.Digest, short.Inner = z.most, 1
		long.Digest, long.Inner = 1, z.most
		list = append(list, short, long)
	}
	return list
}

// fault is a tree that may not be, and why.
type fault struct {
	what string
	tree api.Tree
	why  api.Errno
}

// faults are each field's ends, alone and ahead of all that is looked at later.
func faults() []fault {
	var list []fault
	for _, k := range noKinds {
		list = append(list,
			fault{"kind", api.Tree{Kind: k, Digest: 1, Fanout: 2, Depth: 2, Leaf: 1, Inner: 1}, api.ErrArg},
			fault{"kind and all", api.Tree{Kind: k, Fanout: 1, Key: rising(65), Salt: rising(3)}, api.ErrArg})
	}
	for _, k := range kinds {
		z := sizesOf(k)
		add := func(what string, why api.Errno, change func(*api.Tree)) {
			tree := grown(k, 2, 255, 4)
			change(&tree)
			list = append(list, fault{what, tree, why})
		}
		behind := func(t *api.Tree) { t.Key, t.Salt = rising(z.most+1), rising(1) }
		number := func(what string, field func(*api.Tree) *int, wrong ...int) {
			for _, n := range append(wrong, -1, 256, 258, math.MinInt, math.MaxInt) {
				add(what, api.ErrTree, func(t *api.Tree) { *field(t) = n })
				add(what+" and all behind", api.ErrTree, func(t *api.Tree) { *field(t) = n; behind(t) })
			}
		}
		number("digest", func(t *api.Tree) *int { return &t.Digest }, 0, z.most+1)
		number("inner", func(t *api.Tree) *int { return &t.Inner }, 0, z.most+1)
		number("fanout", func(t *api.Tree) *int { return &t.Fanout }, 1)
		number("depth", func(t *api.Tree) *int { return &t.Depth }, 0, 1)
		add("leaf", api.ErrTree, func(t *api.Tree) { t.Leaf = 0 })
		add("key", api.ErrKey, func(t *api.Tree) { t.Key = rising(z.most + 1) })
		add("key and all behind", api.ErrKey, behind)
		for _, n := range []int{1, z.salt - 1, z.salt + 1, 300} {
			add("salt", api.ErrTree, func(t *api.Tree) { t.Salt = rising(n) })
			add("personal", api.ErrTree, func(t *api.Tree) { t.Personal = make([]byte, n) })
		}
	}
	return list
}

func poolOf(workers, queue int) api.Pool {
	return api.Pool{Workers: workers, Queue: queue}
}

// pools are some that may be, at all edges.
func pools() []api.Pool {
	var list []api.Pool
	for _, workers := range []int{1, 2, 3, 32, 62, 63, 64, 65, 255, 256} {
		for _, queue := range []int{1, 2, 3, 31, 32, 33, 63, 64, 1023, 1024} {
			list = append(list, poolOf(workers, queue))
		}
	}
	return list
}

// noPools are some that may not be: one number wrong, or both.
func noPools() []api.Pool {
	var list []api.Pool
	wrongWorkers := []int{0, 257, -1, -256, math.MinInt, math.MaxInt}
	wrongQueues := []int{0, 1025, -1, -1024, math.MinInt, math.MaxInt}
	for _, workers := range wrongWorkers {
		for _, queue := range append([]int{1, 5, 1024}, wrongQueues...) {
			list = append(list, poolOf(workers, queue))
		}
	}
	for _, queue := range wrongQueues {
		for _, workers := range []int{1, 5, 256} {
			list = append(list, poolOf(workers, queue))
		}
	}
	return list
}

// rightBuffers and rightBound are the chapter's words on pools that may be.
func rightBuffers(p api.Pool) int {
	n := p.Queue + p.Workers
	if n > 64 {
		return 64
	}
	return n
}

func rightBound(jobs int, p api.Pool) int {
	return 23 + 8*p.Workers + 4*rightBuffers(p) + 15*jobs
}

// names are the operations' names, by their numbers.
var names = []string{"", "Set", "Sum", "Less", "Jump", "Send", "Take", "Close", "Lock", "Free", "Add", "Wait", "Read", "Write", "Start", "Work", "End"}

// prog reads a program as the chapter's table writes it: "Set 0 0; Jump, C 9". What is not told is 0.
func prog(text string) []api.Inst {
	var list []api.Inst
	for _, part := range strings.Split(text, ";") {
		words := strings.Fields(strings.Replace(part, ", C", " 0 0", 1))
		i := api.Inst{Op: slices.Index(names, words[0])}
		for at, field := range []*int{&i.A, &i.B, &i.C} {
			if at+1 < len(words) {
				n, err := strconv.Atoi(words[at+1])
				if err != nil {
					panic("no instruction: " + part)
				}
				*field = n
			}
		}
		if i.Op <= 0 || len(words) > 4 {
			panic("no instruction: " + part)
		}
		list = append(list, i)
	}
	return list
}

// rightSystem is the chapter's table, word by word.
func rightSystem(n int, p api.Pool) api.System {
	b := rightBuffers(p)
	return api.System{
		Progs: [][]api.Inst{
			prog(fmt.Sprintf("Set 0 0; Set 1 %d; Set 2 1; Less 0 1 5; Jump, C 9; Add 0 1; Start 1; Sum 0 2; Jump, C 3; Start 2; Start 3; Take 1 3 14; Work 1 3; Jump, C 11; End", p.Workers)),
			prog("Take 0 3 6; Read 3 4; Work 0 4; Send 2 3; Send 1 4; Jump, C 0; Add 0 -1; End"),
			prog(fmt.Sprintf("Set 0 0; Set 1 %d; Set 2 1; Less 0 1 5; Jump, C 8; Send 2 0; Sum 0 2; Jump, C 3; Set 0 0; Set 1 %d; Less 0 1 12; Jump, C 17; Take 2 3 17; Write 3 0; Send 0 3; Sum 0 2; Jump, C 10; Close 0; End", b, n)),
			prog("Wait 0; Close 1; End"),
		},
		Rooms:  []int{p.Queue, p.Queue, b},
		Groups: 1,
		Locks:  0,
		Cells:  b,
	}
}

func sameSystem(a, b api.System) bool {
	return slices.EqualFunc(a.Progs, b.Progs, slices.Equal) && slices.Equal(a.Rooms, b.Rooms) && a.Groups == b.Groups && a.Locks == b.Locks && a.Cells == b.Cells
}

func isNoSystem(s api.System) bool {
	return sameSystem(s, api.System{})
}

func isNoRun(r api.PoolRun) bool {
	return len(r.Digest) == 0 && len(r.Order) == 0 && r.Steps == 0 && r.Most == 0 && r.End == 0
}

func sameRun(a, b api.PoolRun) bool {
	return bytes.Equal(a.Digest, b.Digest) && slices.Equal(a.Order, b.Order) && a.Steps == b.Steps && a.Most == b.Most && a.End == b.End
}

// sure tells an answer that comes without an error.
func sure[T any](t testing.TB, what string, answer T, e api.Errno) T {
	t.Helper()
	if e != api.OK {
		t.Fatalf("%s: error %d", what, e)
	}
	return answer
}

func systemOf(t testing.TB, n int, p api.Pool) api.System {
	t.Helper()
	s, e := System(n, p)
	return sure(t, "System", s, e)
}

func playOf(t testing.TB, tree api.Tree, data []byte, p api.Pool, picks []int) api.PoolRun {
	t.Helper()
	r, e := Play(tree, data, p, picks)
	return sure(t, "Play", r, e)
}

func leavesOf(t testing.TB, plan api.Tree, data []byte) [][]byte {
	t.Helper()
	list, e := tree.Leaves(plan, data)
	return sure(t, "Leaves", list, e)
}

func hashOf(t testing.TB, plan api.Tree, data []byte) []byte {
	t.Helper()
	digest, e := tree.Hash(plan, data)
	return sure(t, "Hash", digest, e)
}

// numbers are those from 0 up to, but not with, n.
func numbers(n int) []int {
	list := make([]int, n)
	for i := range list {
		list[i] = i
	}
	return list
}

// turned tells lists in the order that places say.
func turned(list [][]byte, places []int) [][]byte {
	var out [][]byte
	for _, at := range places {
		out = append(out, list[at])
	}
	return out
}

// rightRun tells what PO3 says of the chapter's system by the events of sched.Play: channel 0 is filled and emptied value by value.
func rightRun(t testing.TB, plan api.Tree, data []byte, p api.Pool, picks []int) api.PoolRun {
	t.Helper()
	leaves := leavesOf(t, plan, data)
	run, e := sched.Play(rightSystem(len(leaves), p), picks)
	sure(t, "sched.Play", run, e)
	r := api.PoolRun{End: run.End, Steps: len(run.Events)}
	var waiting []int
	outputs := map[int][]byte{}
	for _, e := range run.Events {
		switch {
		case e.Op == api.OpWork && e.A == 1:
			r.Order = append(r.Order, e.Value)
			outputs[e.Value] = leaves[e.Value]
		case e.Op == api.OpSend && e.A == 0:
			waiting = append(waiting, e.Value)
		case e.Op == api.OpTake && e.A == 0 && !e.Shut:
			waiting = waiting[1:]
		}
		if len(waiting) > r.Most {
			r.Most = len(waiting)
		}
	}
	var list [][]byte
	for i := range leaves {
		list = append(list, outputs[i])
	}
	digest, e := tree.Fold(plan, uint64(len(data)), list)
	r.Digest = sure(t, "tree.Fold", digest, e)
	return r
}

// chance tells numbers that look like chance, and are the same each time.
type chance uint64

func (c *chance) next() uint64 {
	*c += 0x9e3779b97f4a7c15
	x := uint64(*c)
	x = (x ^ x>>30) * 0xbf58476d1ce4e5b9
	x = (x ^ x>>27) * 0x94d049bb133111eb
	return x ^ x>>31
}

func (c *chance) below(n int) int {
	return int(c.next() % uint64(n))
}

// picks are so many, of all sizes.
func (c *chance) picks(n int) []int {
	list := make([]int, n)
	for i := range list {
		switch c.below(8) {
		case 0:
			list[i] = []int{math.MinInt, math.MaxInt, -1, math.MinInt + 1}[c.below(4)]
		default:
			list[i] = int(c.next())
		}
	}
	return list
}

// bursts are so many picks of which many stand side by side that are alike: so some runners are far ahead of others.
func (c *chance) bursts(n int) []int {
	var list []int
	for len(list) < n {
		pick := c.below(13) - 6
		for range 1 + c.below(40) {
			list = append(list, pick)
		}
	}
	return list[:n]
}

// order are the numbers below n, mixed.
func (c *chance) order(n int) []int {
	list := numbers(n)
	for i := range list {
		j := i + c.below(n-i)
		list[i], list[j] = list[j], list[i]
	}
	return list
}

// manyPicks are lists of all kinds for a run of so many steps: none, few, as many, more.
func (c *chance) manyPicks(steps int) [][]int {
	return [][]int{
		nil,
		{},
		slices.Repeat([]int{-1}, steps),
		slices.Repeat([]int{1}, steps),
		slices.Repeat([]int{-2}, steps),
		slices.Repeat([]int{0, 1, 2, 3, 4}, steps/5+1),
		slices.Repeat([]int{math.MaxInt, math.MinInt}, steps/2+1),
		c.picks(steps),
		c.picks(steps / 2),
		c.picks(steps + 50),
		c.bursts(steps),
		c.bursts(steps),
	}
}
