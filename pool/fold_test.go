package pool

import (
	"bytes"
	"fmt"
	"math"
	"slices"
	"testing"

	"quern/api"
	"quern/tree"
)

func wantFold(t *testing.T, what string, plan api.Tree, total uint64, order []int, sums [][]byte, right []byte) {
	t.Helper()
	got, e := Fold(plan, total, order, sums)
	if e != api.OK || !bytes.Equal(got, right) {
		t.Errorf("Fold, %s: %x, error %d, want %x", what, got, e, right)
	}
}

func wantNoFold(t *testing.T, what string, plan api.Tree, total uint64, order []int, sums [][]byte, why api.Errno) {
	t.Helper()
	got, e := Fold(plan, total, order, sums)
	if e != why || len(got) != 0 {
		t.Errorf("Fold, %s: %x, error %d, want error %d", what, got, e, why)
	}
}

// orders visits all orders of n leaves.
func orders(n int, visit func([]int)) {
	list := numbers(n)
	var from func(at int)
	from = func(at int) {
		if at == n {
			visit(slices.Clone(list))
			return
		}
		for i := at; i < n; i++ {
			list[at], list[i] = list[i], list[at]
			from(at + 1)
			list[at], list[i] = list[i], list[at]
		}
	}
	from(0)
}

func TestFoldInEachOrder(t *testing.T) { // PO2: the digest is the same, whoever came when
	for i, plan := range trees() {
		for n := 1; n <= 5; n++ {
			data := pattern(2*n - 1)
			right, sums := hashOf(t, plan, data), leavesOf(t, plan, data)
			orders(n, func(order []int) {
				wantFold(t, fmt.Sprint("tree ", i, ", order ", order), plan, uint64(len(data)), order, turned(sums, order), right)
			})
		}
	}
}

func TestFoldOfManyLeaves(t *testing.T) { // PO2
	c := chance(3)
	for i, plan := range trees() {
		for _, n := range []int{1, 2, 6, 7, 8, 9, 16, 17, 27, 28, 60} {
			for _, length := range []int{2 * n, 2*n - 1} {
				data := pattern(length)
				right, sums := hashOf(t, plan, data), leavesOf(t, plan, data)
				for _, order := range [][]int{numbers(n), c.order(n), c.order(n), backwards(n)} {
					wantFold(t, fmt.Sprint("tree ", i, ", order ", order), plan, uint64(length), order, turned(sums, order), right)
				}
			}
		}
	}
}

func backwards(n int) []int {
	list := numbers(n)
	slices.Reverse(list)
	return list
}

func TestFoldOfAnEmptyMessage(t *testing.T) { // one leaf, an empty one
	for i, plan := range trees() {
		right, sums := hashOf(t, plan, nil), leavesOf(t, plan, nil)
		wantFold(t, fmt.Sprint("tree ", i), plan, 0, []int{0}, sums, right)
		wantNoFold(t, fmt.Sprint("tree ", i, ", no leaf"), plan, 0, nil, nil, api.ErrForm)
	}
}

// anySums are so many lists of so many bytes, that no message need have.
func anySums(n, size int) [][]byte {
	list := make([][]byte, n)
	for i := range list {
		list[i] = bytes.Repeat([]byte{byte(i), byte(i >> 8), 7}, size)[:size]
	}
	return list
}

func TestFoldOfAnySums(t *testing.T) { // PO2: sums[i] is what the leaf order[i] gives, whether a message has such leaves or not
	c := chance(4)
	for i, plan := range trees() {
		for _, n := range []int{1, 2, 3, 8, 13} {
			sums := anySums(n, plan.Inner)
			right, e := tree.Fold(plan, uint64(2*n), sums)
			sure(t, "tree.Fold", right, e)
			for range 4 {
				order := c.order(n)
				wantFold(t, fmt.Sprint("tree ", i), plan, uint64(2*n), order, turned(sums, order), right)
			}
			if n > 1 { // another order of the same sums is another message
				if got, e := Fold(plan, uint64(2*n), backwards(n), sums); e != api.OK || plan.Digest > 1 && bytes.Equal(got, right) {
					t.Errorf("tree %d: %x, error %d", i, got, e)
				}
			}
		}
	}
}

func TestFoldOfMaxJobs(t *testing.T) { // PO2: at MaxJobs leaves, and beyond
	c := chance(5)
	for _, k := range kinds {
		plan := bare(k, 3, 255, 2)
		data := pattern(2 * api.MaxJobs)
		right, sums := hashOf(t, plan, data), leavesOf(t, plan, data)
		order := c.order(api.MaxJobs)
		wantFold(t, "MaxJobs leaves", plan, uint64(len(data)), order, turned(sums, order), right)
		wantNoFold(t, "one less told", plan, uint64(len(data)-2), order, turned(sums, order), api.ErrForm)
		more := append(slices.Clone(sums), sums[0])
		wantNoFold(t, "one leaf more", plan, uint64(len(data)+1), numbers(api.MaxJobs+1), more, api.ErrLong)
		wantNoFold(t, "one leaf more, one too few told", plan, uint64(len(data)+1), order, sums, api.ErrLong)
		wantNoFold(t, "many leaves, none told", plan, math.MaxUint32, nil, nil, api.ErrLong)
	}
}

func TestFoldOfGreatTotals(t *testing.T) { // PO2: what counts is how many leaves there are, not how many bytes
	for _, k := range kinds {
		plan := bare(k, 2, 255, math.MaxUint32)
		total := uint64(math.MaxUint32) * api.MaxJobs
		sums := anySums(api.MaxJobs, plan.Inner)
		right, e := tree.Fold(plan, total, sums)
		sure(t, "tree.Fold", right, e)
		wantFold(t, "great leaves", plan, total, numbers(api.MaxJobs), sums, right)
		wantFold(t, "great leaves, backwards", plan, total, backwards(api.MaxJobs), turned(sums, backwards(api.MaxJobs)), right)
		wantNoFold(t, "one byte more", plan, total+1, numbers(api.MaxJobs), sums, api.ErrLong)
		wantNoFold(t, "all bytes", plan, math.MaxUint64, numbers(api.MaxJobs), sums, api.ErrLong)
		plan.Leaf = 1
		wantNoFold(t, "all bytes, small leaves", plan, math.MaxUint64, nil, nil, api.ErrLong)
		for _, past := range []uint64{1 << 48, 1<<48 + 1} {
			wantNoFold(t, "as many leaves as a Small tree has", plan, past, nil, nil, api.ErrLong)
		}
	}
}

func TestFoldRefusesTrees(t *testing.T) { // PO2: shape's errors, ahead of all others
	for _, f := range faults() {
		for _, total := range []uint64{0, 3, 9, 1 << 20, math.MaxUint64} {
			wantNoFold(t, f.what, f.tree, total, []int{0}, [][]byte{make([]byte, 16)}, f.why)
			wantNoFold(t, f.what+", nothing told", f.tree, total, nil, nil, f.why)
			wantNoFold(t, f.what+", a leaf twice", f.tree, total, []int{1, 1, -1}, anySums(2, 3), f.why)
		}
	}
}

func TestFoldRefusesOrders(t *testing.T) { // PO2: not each leaf's place, once
	for i, plan := range trees() {
		data := pattern(7) // four leaves
		sums := leavesOf(t, plan, data)
		for _, order := range [][]int{
			{0, 1, 2, 2}, {2, 2, 1, 0}, {0, 0, 2, 3}, {3, 3, 3, 3}, {0, 0, 0, 0}, {3, 0, 2, 2}, {0, 1, 2, 0}, {1, 2, 3, 1},
			{1, 2, 3, 4}, {4, 1, 2, 3}, {0, 1, 2, 4}, {0, 1, 2, 1024}, {0, 1, 2, math.MaxInt},
			{-1, 0, 1, 2}, {0, 1, 2, -1}, {0, -1, 2, 3}, {-4, -3, -2, -1}, {0, 1, 2, math.MinInt}, {0, 1, 2, 1 << 32}, {0, 1, 2, 3 + 1<<32}, {3, 2, 1, 1 << 63 >> 1},
		} {
			wantNoFold(t, fmt.Sprint("tree ", i, ", order ", order), plan, 7, order, sums, api.ErrForm)
		}
	}
}

func TestFoldRefusesNumbers(t *testing.T) { // PO2: too few, too many
	for i, plan := range trees() {
		data := pattern(7) // four leaves
		sums := leavesOf(t, plan, data)
		more := append(slices.Clone(sums), sums[0])
		for _, x := range []struct {
			what  string
			order []int
			sums  [][]byte
		}{
			{"nothing", nil, nil},
			{"empty lists", []int{}, [][]byte{}},
			{"no order", nil, sums},
			{"no sums", numbers(4), nil},
			{"order too short", numbers(3), sums},
			{"sums too short", numbers(4), sums[:3]},
			{"both too short", numbers(3), sums[:3]},
			{"order too long", numbers(5), sums},
			{"order too long, a leaf twice", []int{0, 1, 2, 3, 3}, sums},
			{"order too long, a leaf twice, sums too", []int{0, 1, 2, 3, 3}, more},
			{"order too long, no leaf behind, sums too", []int{0, 1, 2, 3, -1}, more},
			{"sums too long", numbers(4), more},
			{"both too long", numbers(5), more},
			{"as many together", numbers(3), more},
		} {
			wantNoFold(t, fmt.Sprint("tree ", i, ", ", x.what), plan, 7, x.order, x.sums, api.ErrForm)
		}
	}
}

func TestFoldRefusesSums(t *testing.T) { // PO2: one of another length than Inner
	for i, plan := range trees() {
		data := pattern(7) // four leaves
		for at := range 4 {
			for _, size := range []int{0, plan.Inner - 1, plan.Inner + 1, plan.Digest, 2 * plan.Inner, 1000} {
				if size == plan.Inner {
					continue
				}
				sums := leavesOf(t, plan, data)
				sums[at] = make([]byte, size)
				wantNoFold(t, fmt.Sprint("tree ", i, ", sum ", at, " of ", size), plan, 7, numbers(4), sums, api.ErrForm)
				wantNoFold(t, fmt.Sprint("tree ", i, ", sum ", at, " of ", size, ", backwards"), plan, 7, backwards(4), sums, api.ErrForm)
			}
		}
		if plan.Inner > 1 { // as many bytes in all
			sums := leavesOf(t, plan, data)
			sums[0], sums[1] = sums[0][1:], append(slices.Clone(sums[1]), 0)
			wantNoFold(t, fmt.Sprint("tree ", i, ", a byte moved"), plan, 7, numbers(4), sums, api.ErrForm)
		}
		sums := leavesOf(t, plan, data)
		sums[2] = nil
		wantNoFold(t, fmt.Sprint("tree ", i, ", a nil sum"), plan, 7, numbers(4), sums, api.ErrForm)
	}
}
