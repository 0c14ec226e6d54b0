package slice

import (
	"iter"

	"quern/api"
	"quern/param"
	"quern/shape"
)

// reach is numbers from one up to, but not with, another.
type reach struct {
	from, to uint64
}

// form is which nodes have their pieces in a laid form, or in that of a part.
type form struct {
	tree  api.Tree
	total uint64
	part  reach   // bytes of the message
	rows  []reach // of each row, from the leaves on, the places of those nodes
}

// formOf tells the form of a part. Its tree may be, and total is at most MaxTotal: shape refuses neither it nor a place in it.
func formOf(t api.Tree, total, from, n uint64) form {
	f := form{tree: t, total: total, part: partOf(total, from, n)}
	nodes, _ := shape.Rows(t, total)
	first, last := f.leaves(nodes[0])
	f.rows = make([]reach, len(nodes))
	for row := range f.rows {
		f.rows[row] = reach{first, last + 1}
		first, last = f.parent(row, first), f.parent(row, last)
	}
	return f
}

// partOf tells which bytes a part has. The sum of from and n is not asked for: it might not fit.
func partOf(total, from, n uint64) reach {
	from = min(from, total)
	return reach{from, from + min(n, total-from)}
}

// leaves tells the first and the last leaf of the part, of count that there are.
func (f form) leaves(count uint64) (first, last uint64) {
	leaf := uint64(f.tree.Leaf)
	// Behind a last leaf that is full there is no other in which the message's end could lie.
	first = min(f.part.from/leaf, count-1)
	if f.part.from == f.part.to {
		return first, first
	}
	return first, (f.part.to - 1) / leaf
}

// parent tells the place of the node above; of the root, that there is none is told by its spot.
func (f form) parent(row int, at uint64) uint64 {
	above, _ := shape.Parent(f.tree, f.total, row, at)
	return above
}

func (f form) spot(row int, at uint64) api.Spot {
	s, _ := shape.Spot(f.tree, f.total, row, at)
	return s
}

func (f form) root() api.Spot {
	return f.spot(len(f.rows)-1, 0)
}

// next tells the node whose piece stands behind that of s, and whether there is one.
func (f form) next(s api.Spot) (api.Spot, bool) {
	if s.Row > 0 {
		return f.spot(s.Row-1, max(s.From, f.rows[s.Row-1].from)), true
	}
	for !s.Root {
		above := f.spot(s.Row+1, f.parent(s.Row, s.At))
		if s.At+1 < min(above.To, f.rows[s.Row].to) {
			return f.spot(s.Row, s.At+1), true
		}
		s = above
	}
	return api.Spot{}, false
}

// nodes gives those whose pieces stand in the form, in the order of these.
func (f form) nodes() iter.Seq[api.Spot] {
	return func(yield func(api.Spot) bool) {
		for s, ok := f.root(), true; ok && yield(s); {
			s, ok = f.next(s)
		}
	}
}

// has tells whether a node's piece stands in the form.
func (f form) has(s api.Spot) bool {
	there := f.rows[s.Row]
	return there.from <= s.At && s.At < there.to
}

// size tells how many bytes a node's piece has.
func (f form) size(s api.Spot) uint64 {
	if s.Row == 0 {
		return s.To - s.From
	}
	return (s.To - s.From) * uint64(f.tree.Inner)
}

// within tells those bytes of a leaf that the part has.
func (f form) within(leaf api.Spot, data []byte) []byte {
	from, to := max(leaf.From, f.part.from), min(leaf.To, f.part.to)
	if from >= to {
		return nil
	}
	return data[from-leaf.From : to-leaf.From]
}

// call tells a node's, with this piece as its data. It shares the tree's key and the piece: who hands it out takes copies.
func (f form) call(s api.Spot, data []byte) api.Call {
	p, _ := shape.Params(f.tree, f.total, s.Row, s.At)
	block, _ := param.Encode(f.tree.Kind, p)
	c := api.Call{Kind: f.tree.Kind, Block: block, Last: s.Last, Out: f.tree.Inner, Data: data}
	if s.Row == 0 {
		c.Key = f.tree.Key
	}
	if s.Root {
		c.Out = f.tree.Digest
	}
	return c
}
