package pool

import (
	"bytes"
	"fmt"
	"slices"
	"sync"
	"testing"

	"quern/api"
)

// roomy tells a copy of a list with room behind its end, and a function that tells whether list and room are as they were.
func roomy[T comparable](list []T, filler T) ([]T, func() bool) {
	whole := append(slices.Clone(list), slices.Repeat([]T{filler}, 70)...)
	before := slices.Clone(whole)
	return whole[:len(list)], func() bool { return slices.Equal(whole, before) }
}

// roomyTree lays a tree's lists likewise.
func roomyTree(t api.Tree) (api.Tree, func() bool) {
	var stills [3]func() bool
	t.Key, stills[0] = roomy(t.Key, 0xa5)
	t.Salt, stills[1] = roomy(t.Salt, 0xa5)
	t.Personal, stills[2] = roomy(t.Personal, 0xa5)
	return t, func() bool { return stills[0]() && stills[1]() && stills[2]() }
}

// roomyLists lays a list of lists likewise, the list's own room with marks too.
func roomyLists(list [][]byte) ([][]byte, func() bool) {
	var whole [][]byte
	var stills []func() bool
	for _, b := range append(slices.Clone(list), []byte("mark"), []byte("mark"), []byte("mark")) {
		laid, still := roomy(b, 0xa5)
		whole, stills = append(whole, laid), append(stills, still)
	}
	first := slices.Clone(whole)
	return whole[:len(list)], func() bool {
		for i := range whole {
			if len(whole[i]) != len(first[i]) || cap(whole[i]) != cap(first[i]) || &whole[i][:1][0] != &first[i][:1][0] || !stills[i]() {
				return false
			}
		}
		return true
	}
}

// spoil overwrites a list and the room behind its end.
func spoil[T any](list []T, by T) {
	whole := list[:cap(list)]
	for i := range whole {
		whole[i] = by
	}
}

// spoilSystem overwrites all lists of a system, with the room behind their ends.
func spoilSystem(s api.System) {
	for _, p := range s.Progs[:cap(s.Progs)] {
		spoil(p, api.Inst{Op: 77, A: 78, B: 79, C: 80})
	}
	spoil(s.Rooms, -5)
	spoil(s.Progs, nil)
}

func TestSystemIsNewMemory(t *testing.T) { // P4: a spoilt answer leaves all others as they were
	for _, n := range []int{0, 3, 1024} {
		for _, p := range []api.Pool{poolOf(1, 1), poolOf(3, 4), poolOf(256, 1024)} {
			first, second := systemOf(t, n, p), systemOf(t, n, p)
			spoilSystem(first)
			if !sameSystem(second, rightSystem(n, p)) || !sameSystem(systemOf(t, n, p), rightSystem(n, p)) {
				t.Errorf("%d jobs, %v: two systems share memory", n, p)
			}
			for at := range second.Progs { // no two lists of one system share any
				fresh := systemOf(t, n, p)
				spoil(fresh.Progs[at], api.Inst{Op: 99})
				fresh.Progs[at] = rightSystem(n, p).Progs[at]
				if !sameSystem(fresh, rightSystem(n, p)) {
					t.Errorf("%d jobs, %v: program %d shares memory with another list", n, p, at)
				}
			}
		}
	}
}

func TestPlayChangesNothing(t *testing.T) { // P4: trees, data and picks stay as they were, with the room behind their ends
	c := chance(13)
	for i, plan := range trees() {
		tree, stillTree := roomyTree(plan)
		data, stillData := roomy(pattern(15), 0x5a)
		for _, p := range []api.Pool{poolOf(1, 1), poolOf(3, 2), poolOf(0, 1)} {
			picks, stillPicks := roomy(c.bursts(150), 12345)
			first, e := Play(tree, data, p, picks)
			if e != Valid(p) || !stillTree() || !stillData() || !stillPicks() {
				t.Errorf("tree %d, %v: error %d, or what was handed in has changed", i, p, e)
			}
			if e == api.OK {
				wantPlayApart(t, fmt.Sprint("tree ", i), tree, data, p, picks, first)
			}
			if !stillTree() || !stillData() || !stillPicks() {
				t.Errorf("tree %d, %v: an answer shares memory with what was handed in", i, p)
			}
		}
	}
}

// wantPlayApart spoils an answer, and holds that later ones and earlier ones are as they were.
func wantPlayApart(t *testing.T, what string, plan api.Tree, data []byte, p api.Pool, picks []int, got api.PoolRun) {
	t.Helper()
	right := rightRun(t, plan, data, p, picks)
	other := playOf(t, plan, data, p, picks)
	spoil(got.Digest, 0xee)
	spoil(got.Order, -7)
	if !sameRun(other, right) || !sameRun(playOf(t, plan, data, p, picks), right) {
		t.Errorf("%s: two runs share memory", what)
	}
}

func TestFoldChangesNothing(t *testing.T) { // P4: trees, orders and sums stay as they were, with the room behind their ends
	c := chance(14)
	for i, plan := range trees() {
		data := pattern(15)
		right, leaves := hashOf(t, plan, data), leavesOf(t, plan, data)
		tree, stillTree := roomyTree(plan)
		places := c.order(8)
		for _, change := range []int{0, 1, 9, -1} {
			order, stillOrder := roomy(places, 4)
			sums, stillSums := roomyLists(turned(leaves, places))
			if change != 0 {
				order, stillOrder = roomy(append(slices.Clone(places[:7]), places[7]+change*8), 4)
			}
			got, e := Fold(tree, 15, order, sums)
			if change != 0 && (e != api.ErrForm || len(got) != 0) || change == 0 && (e != api.OK || !bytes.Equal(got, right)) {
				t.Errorf("tree %d: %x, error %d", i, got, e)
			}
			other, _ := Fold(tree, 15, order, sums)
			spoil(got, 0xee)
			if !stillTree() || !stillOrder() || !stillSums() {
				t.Errorf("tree %d: what was handed in has changed", i)
			}
			if change == 0 && !bytes.Equal(other, right) {
				t.Errorf("tree %d: two digests share memory", i)
			}
		}
	}
}

func TestNothingIsKept(t *testing.T) { // P4, P5: what is changed behind a call leaves its answer as it is, and is seen by the next call
	c := chance(15)
	for i, plan := range trees() {
		tree, _ := roomyTree(plan)
		data, order, picks := pattern(15), c.order(8), c.bursts(200)
		sums := turned(leavesOf(t, plan, data), order)
		p := poolOf(3, 2)
		run := playOf(t, tree, data, p, picks)
		digest, e := Fold(tree, 15, order, sums)
		sure(t, "Fold", digest, e)
		right, rightDigest := rightRun(t, plan, pattern(15), p, slices.Clone(picks)), hashOf(t, plan, pattern(15))
		for _, list := range append(slices.Clone(sums), tree.Key, tree.Salt, tree.Personal, data) {
			spoil(list, 0x11)
		}
		spoil(order, 1)
		spoil(picks, -1)
		if !sameRun(run, right) || !bytes.Equal(digest, rightDigest) {
			t.Errorf("tree %d: an answer has changed", i)
		}
		wantNoFold(t, "a spoilt order", tree, 15, order, sums, api.ErrForm)
		if got := playOf(t, tree, data, p, picks); !sameRun(got, rightRun(t, tree, data, p, picks)) {
			t.Errorf("tree %d: what was changed is not seen", i)
		}
	}
}

func TestNilAndEmpty(t *testing.T) { // P3: lists of trees, data, picks, orders and sums
	for _, k := range kinds {
		nils := bare(k, 2, 255, 4)
		empties := nils
		empties.Key, empties.Salt, empties.Personal = []byte{}, []byte{}, []byte{}
		right := playOf(t, nils, nil, poolOf(2, 2), nil)
		wantPlay(t, "empty lists", empties, []byte{}, poolOf(2, 2), []int{}, right)
		sums := leavesOf(t, nils, nil)
		wantFold(t, "empty lists", empties, 0, []int{0}, sums, right.Digest)
		for _, order := range [][]int{nil, {}} {
			for _, sums := range [][][]byte{nil, {}, {nil}, {{}}} {
				wantNoFold(t, "no order", nils, 0, order, sums, api.ErrForm)
				wantNoFold(t, "an empty sum", nils, 0, []int{0}, sums, api.ErrForm)
			}
		}
	}
}

func TestZeroArguments(t *testing.T) { // P1: of nothing at all
	wantNoPlay(t, "nothing", api.Tree{}, nil, api.Pool{}, api.ErrArg)
	wantNoFold(t, "nothing", api.Tree{}, 0, nil, nil, api.ErrArg)
	if s, e := System(0, api.Pool{}); e != api.ErrPool || !isNoSystem(s) {
		t.Errorf("System: %v, error %d", s, e)
	}
}

func TestSideBySide(t *testing.T) { // P5: calls at the same time know nothing of one another
	c := chance(16)
	plans := trees()
	texts := make([]string, 60)
	picks := c.bursts(300)
	ask := func(i int) string {
		plan, p, data := plans[i%len(plans)], poolOf(1+i%5, 1+i%7), pattern(i)
		run, e1 := Play(plan, data, p, picks)
		steps, e2 := Bound(i, p)
		s, e3 := System(i, p)
		return fmt.Sprint(run, e1, steps, e2, s, e3)
	}
	var all sync.WaitGroup
	for i := range texts {
		all.Go(func() { texts[i] = ask(i) })
	}
	all.Wait()
	for i, text := range texts {
		if text != ask(i) {
			t.Errorf("call %d: told otherwise", i)
		}
	}
}
