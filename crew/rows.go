package crew

import (
	"quern/api"
	"quern/node"
	"quern/shape"
)

// batch is how many leaves go to the hands at a time, so that of a long message not all outputs lie there at once.
const batch = api.MaxJobs

// take lays b behind what was written, and hashes the leaves that are settled by it.
func (c *Crew) take(b []byte) {
	b = b[c.fill(b):]
	if len(b) == 0 {
		// A full leaf may still be the last one, which is hashed otherwise.
		return
	}
	leaves := [][]byte{c.held}
	for c.exceeds(b) {
		if len(leaves) == batch {
			c.settle(leaves)
			leaves = leaves[:0]
		}
		leaf := b[:c.tree.Leaf]
		leaves, b = append(leaves, leaf), b[len(leaf):]
	}
	c.settle(leaves)
	c.held = append(c.held[:0], b...)
}

// fill lays the first bytes of b into the leaf that is not settled, as many as it takes, and tells how many.
func (c *Crew) fill(b []byte) int {
	room := uint64(c.tree.Leaf) - uint64(len(c.held))
	n := int(min(room, uint64(len(b))))
	c.held = append(c.held, b[:n]...)
	return n
}

// exceeds tells whether b has more bytes than a leaf.
func (c *Crew) exceeds(b []byte) bool {
	return uint64(len(b)) > uint64(c.tree.Leaf)
}

// settle has the next leaves, which are known not to be the last ones, hashed by hands.
func (c *Crew) settle(leaves [][]byte) {
	first := c.leaves
	outputs, hashed := byHands(c.pool, leaves, func(x piece) []byte {
		return output(c.tree, api.Spot{At: first + uint64(x.at)}, x.data)
	})
	c.leaves += hashed
	for i, out := range outputs {
		c.lay(first+uint64(i), out)
	}
}

// lay puts a settled leaf's output behind those of its row; what is full goes up as the node above, row by row.
func (c *Crew) lay(at uint64, out []byte) {
	for row := 0; ; row++ {
		if row == len(c.rows) {
			c.rows = append(c.rows, nil)
		}
		c.rows[row] = append(c.rows[row], out...)
		if !c.full(row) {
			return
		}
		at /= uint64(c.tree.Fanout)
		out = output(c.tree, api.Spot{Row: row + 1, At: at}, c.rows[row])
		c.rows[row] = c.rows[row][:0]
	}
}

// full tells whether a row has all children of a node that is settled with them. Below a root that takes all of the row there is no such node.
func (c *Crew) full(row int) bool {
	if c.tree.Fanout == 0 || row+1 == c.tree.Depth-1 {
		return false
	}
	return len(c.rows[row]) == c.tree.Fanout*c.tree.Inner
}

// digest tells that of all that was written: the last node of each row takes what is open below it, and the last one there.
func (c *Crew) digest() ([]byte, api.Errno) {
	rows, e := shape.Rows(c.tree, c.Written())
	if e != api.OK {
		return nil, e
	}
	var out []byte
	data := c.held
	for row, nodes := range rows {
		out = output(c.tree, api.Spot{Row: row, At: nodes - 1, Last: true, Root: row == len(rows)-1}, data)
		data = append(c.laid(row), out...)
	}
	return out, api.OK
}

// laid tells the outputs that are open in a row, none of one that is not there. It has no room behind its end: who appends to it leaves the crew as it is.
func (c *Crew) laid(row int) []byte {
	if row >= len(c.rows) {
		return nil
	}
	n := len(c.rows[row])
	return c.rows[row][:n:n]
}

// output tells what a node of a tree that may be gives.
func output(t api.Tree, s api.Spot, data []byte) []byte {
	var key []byte
	if s.Row == 0 {
		key = t.Key
	}
	size := t.Inner
	if s.Root {
		size = t.Digest
	}
	out, _ := node.Hash(t.Kind, params(t, s), key, s.Last, size, data)
	return out
}

// params tells a node's parameters by its place alone: shape would ask how many bytes there will be, which nobody knows yet.
func params(t api.Tree, s api.Spot) api.Params {
	return api.Params{
		Digest:    t.Digest,
		Key:       len(t.Key),
		Fanout:    t.Fanout,
		Depth:     t.Depth,
		Leaf:      t.Leaf,
		Offset:    s.At,
		NodeDepth: s.Row,
		Inner:     t.Inner,
		Salt:      t.Salt,
		Personal:  t.Personal,
	}
}
