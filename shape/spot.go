package shape

import (
	"bytes"

	"quern/api"
)

// stand is where a node stands.
type stand struct {
	row   int
	at    uint64
	nodes uint64 // of its row
	below uint64 // nodes of the row below; of a leaf the message's bytes
}

// isRoot tells whether it is the root: above the leaves no other row has one node.
func (s stand) isRoot() bool {
	return s.row > 0 && s.nodes == 1
}

// find tells where the node at that place stands, or ErrNone, if there is none.
func (l lying) find(row int, at uint64) (stand, api.Errno) {
	s := stand{row: row, at: at, below: l.total}
search:
	for r, n := range l.rows() {
		switch {
		case r < row:
			s.below = n
		case r > row || at >= n:
			break search
		default:
			s.nodes = n
			return s, api.OK
		}
	}
	return stand{}, api.ErrNone
}

// laidFind tells how total bytes lie, and where one of the nodes stands.
func laidFind(t api.Tree, total uint64, row int, at uint64) (lying, stand, api.Errno) {
	l, e := lay(t, total)
	if e != api.OK {
		return lying{}, stand{}, e
	}
	s, e := l.find(row, at)
	return l, s, e
}

// Spot tells what lies below the node at that place, and whether it is the last one or the root.
func Spot(t api.Tree, total uint64, row int, at uint64) (api.Spot, api.Errno) {
	l, s, e := laidFind(t, total, row, at)
	if e != api.OK {
		return api.Spot{}, e
	}
	each := l.each(s)
	from := at * each
	// The end of a full node might not fit, where the row below ends sooner.
	to := from + min(each, s.below-from)
	return api.Spot{Row: row, At: at, From: from, To: to, Last: at == s.nodes-1, Root: s.isRoot()}, api.OK
}

// each tells how many bytes or children a full node of that row has.
func (l lying) each(s stand) uint64 {
	switch {
	case s.row == 0:
		return uint64(l.tree.Leaf)
	case s.isRoot():
		return s.below
	}
	return uint64(l.tree.Fanout)
}

// Parent tells the place, in the row above, of the node whose child it is.
func Parent(t api.Tree, total uint64, row int, at uint64) (uint64, api.Errno) {
	l, s, e := laidFind(t, total, row, at)
	switch {
	case e != api.OK:
		return 0, e
	case s.isRoot():
		return 0, api.ErrNone
	case l.above(row+1, s.nodes) == 1:
		// The root's children may be more than Fanout tells.
		return 0, api.OK
	}
	return at / uint64(t.Fanout), api.OK
}

// Params tells a node's parameters.
func Params(t api.Tree, total uint64, row int, at uint64) (api.Params, api.Errno) {
	_, s, e := laidFind(t, total, row, at)
	if e != api.OK {
		return api.Params{}, e
	}
	return api.Params{
		Digest:    t.Digest,
		Key:       len(t.Key),
		Fanout:    t.Fanout,
		Depth:     t.Depth,
		Leaf:      t.Leaf,
		Offset:    s.at,
		NodeDepth: s.row,
		Inner:     t.Inner,
		Salt:      unlessNoughts(t.Salt),
		Personal:  unlessNoughts(t.Personal),
	}, api.OK
}

// unlessNoughts tells a copy of b, or none, if it is noughts alone.
func unlessNoughts(b []byte) []byte {
	for _, c := range b {
		if c != 0 {
			return bytes.Clone(b)
		}
	}
	return nil
}
