package shape

import (
	"iter"

	"quern/api"
)

// mostSmall is how many leaves a Small tree has at most: a place must fit the six bytes of its block.
const mostSmall = 1 << 48

// lying is a tree that may be, and the message that lies in it.
type lying struct {
	tree   api.Tree
	total  uint64
	leaves uint64
}

// lay tells how total bytes lie in a tree, or why they can't.
func lay(t api.Tree, total uint64) (lying, api.Errno) {
	if e := Valid(t); e != api.OK {
		return lying{}, e
	}
	// An empty message has a leaf too.
	leaves := max(1, parts(total, uint64(t.Leaf)))
	if t.Kind == api.Small && leaves > mostSmall {
		return lying{}, api.ErrLong
	}
	return lying{tree: t, total: total, leaves: leaves}, api.OK
}

// parts tells n / size, rounded up. Nothing is added ahead of dividing: the sum might not fit.
func parts(n, size uint64) uint64 {
	whole := n / size
	if n%size != 0 {
		whole++
	}
	return whole
}

// rows gives each row's number and how many nodes it has, from the leaves up to the root.
func (l lying) rows() iter.Seq2[int, uint64] {
	return func(yield func(int, uint64) bool) {
		n := l.leaves
		if !yield(0, n) {
			return
		}
		for row := 1; row < l.tree.Depth; row++ {
			n = l.above(row, n)
			if !yield(row, n) || n == 1 {
				return
			}
		}
	}
}

// above tells how many nodes a row has, if the one below it has below.
func (l lying) above(row int, below uint64) uint64 {
	if l.tree.Fanout == 0 || row == l.tree.Depth-1 {
		return 1
	}
	return parts(below, uint64(l.tree.Fanout))
}
