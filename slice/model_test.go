package slice_test

import (
	"bytes"
	"encoding/binary"
	"testing"

	"quern/api"
	"quern/node"
)

// lie is how many nodes each row has over so many bytes, from the leaves on, by chapter 9's words.
type lie struct {
	tree  api.Tree
	total uint64
	rows  []uint64
}

// lieOf is for totals that are far from 2^64.
func lieOf(x api.Tree, total uint64) lie {
	n := max(1, (total+uint64(x.Leaf)-1)/uint64(x.Leaf))
	l := lie{x, total, []uint64{n}}
	for {
		switch {
		case x.Fanout == 0, len(l.rows) == x.Depth-1:
			n = 1
		default:
			n = (n + uint64(x.Fanout) - 1) / uint64(x.Fanout)
		}
		l.rows = append(l.rows, n)
		if n == 1 {
			return l
		}
	}
}

func (l lie) root() int {
	return len(l.rows) - 1
}

// below tells what a node has below it: bytes of the message, or places of the row below; from, and up to.
func (l lie) below(row int, at uint64) (from, to uint64) {
	each, all := uint64(l.tree.Leaf), l.total
	if row > 0 {
		each, all = uint64(l.tree.Fanout), l.rows[row-1]
	}
	if row == l.root() {
		return 0, all
	}
	return at * each, min((at+1)*each, all)
}

// leaves tells the first and the last leaf below a node.
func (l lie) leaves(row int, at uint64) (first, last uint64) {
	first, last = at, at
	for ; row > 0; row-- {
		first, _ = l.below(row, first)
		_, end := l.below(row, last)
		last = end - 1
	}
	return first, last
}

// size tells how many bytes a node's piece has.
func (l lie) size(row int, at uint64) uint64 {
	from, to := l.below(row, at)
	if row == 0 {
		return to - from
	}
	return (to - from) * uint64(l.tree.Inner)
}

// wanted tells the first and the last leaf of a part.
func (l lie) wanted(from, n uint64) (first, last uint64) {
	leaf := uint64(l.tree.Leaf)
	begin, end := l.spread(from, n)
	switch {
	case begin >= l.total:
		return l.rows[0] - 1, l.rows[0] - 1
	case begin == end:
		return begin / leaf, begin / leaf
	}
	return begin / leaf, (end - 1) / leaf
}

// spread tells the bytes of a part: from, and up to.
func (l lie) spread(from, n uint64) (uint64, uint64) {
	if from >= l.total {
		return l.total, l.total
	}
	if n >= l.total-from {
		return from, l.total
	}
	return from, from + n
}

// block tells a node's parameter block byte by byte, as chapter 2 lays it down.
func (l lie) block(row int, at uint64) []byte {
	x, z := l.tree, sizesOf(l.tree.Kind)
	b := make([]byte, z.most)
	b[0], b[1], b[2], b[3] = byte(x.Digest), byte(len(x.Key)), byte(x.Fanout), byte(x.Depth)
	binary.LittleEndian.PutUint32(b[4:], x.Leaf)
	for i := range 6 {
		b[8+i] = byte(at >> (8 * i))
	}
	nodeDepth := 16
	if x.Kind == api.Small {
		nodeDepth = 14
	}
	b[nodeDepth], b[nodeDepth+1] = byte(row), byte(x.Inner)
	copy(b[len(b)/2:], x.Salt)
	copy(b[len(b)*3/4:], x.Personal)
	return b
}

// call tells a node's, with this piece as its data.
func (l lie) call(row int, at uint64, data []byte) api.Call {
	c := api.Call{Kind: l.tree.Kind, Block: l.block(row, at), Last: at == l.rows[row]-1, Out: l.tree.Inner, Data: data}
	if row == 0 {
		c.Key = l.tree.Key
	}
	if row == l.root() {
		c.Out = l.tree.Digest
	}
	return c
}

func output(t testing.TB, c api.Call) []byte {
	t.Helper()
	out, e := node.Call(c)
	if e != api.OK {
		t.Fatalf("node.Call: error %d", e)
	}
	return out
}

// piece is what a node has in a form, and where.
type piece struct {
	row   int
	at    uint64
	start int
	data  []byte
}

// filling tells the data of a node, of which outputs of children that are not in the part may be anything.
type filling func(row int, at uint64, size uint64) []byte

// grow lays down the form of a part from its leaves up, each node's data first told by fill and then holding what its children in the part give, and tells it, its pieces and the digest that it leads to.
func grow(t testing.TB, x api.Tree, total, from, n uint64, fill filling) (form []byte, pieces []piece, digest []byte) {
	t.Helper()
	l := lieOf(x, total)
	first, last := l.wanted(from, n)
	inner := uint64(x.Inner)
	var down func(row int, at uint64) ([]piece, []byte)
	down = func(row int, at uint64) ([]piece, []byte) {
		data := bytes.Clone(fill(row, at, l.size(row, at)))
		list := []piece{{row: row, at: at, data: data}}
		if row > 0 {
			begin, end := l.below(row, at)
			for child := begin; child < end; child++ {
				if lo, hi := l.leaves(row-1, child); hi < first || lo > last {
					continue
				}
				below, out := down(row-1, child)
				list = append(list, below...)
				copy(data[(child-begin)*inner:], out)
			}
		}
		return list, output(t, l.call(row, at, data))
	}
	pieces, digest = down(l.root(), 0)
	return join(total, pieces), pieces, digest
}

// join lays pieces down behind the eight bytes, and tells each one where it begins.
func join(total uint64, pieces []piece) []byte {
	form := binary.LittleEndian.AppendUint64(nil, total)
	for i := range pieces {
		pieces[i].start = len(form)
		form = append(form, pieces[i].data...)
	}
	return form
}

// of tells the leaves' bytes as those of data; of nodes above there is nothing to tell when all their children are in the part.
func of(x api.Tree, data []byte) filling {
	return func(row int, at, size uint64) []byte {
		if row > 0 {
			return make([]byte, size)
		}
		from := at * uint64(x.Leaf)
		return data[from : from+size]
	}
}

// laid tells the laid form of data, its pieces and its digest.
func laid(t testing.TB, x api.Tree, data []byte) (form []byte, pieces []piece, digest []byte) {
	t.Helper()
	return grow(t, x, uint64(len(data)), 0, mostNumber, of(x, data))
}

// kept tells the pieces of a laid form that stand in the form of a part.
func kept(x api.Tree, total uint64, pieces []piece, from, n uint64) []piece {
	l := lieOf(x, total)
	first, last := l.wanted(from, n)
	var list []piece
	for _, p := range pieces {
		if lo, hi := l.leaves(p.row, p.at); first <= hi && lo <= last {
			list = append(list, p)
		}
	}
	return list
}

// heard is what comes of a form that is read from the left.
type heard struct {
	total  uint64
	told   bool   // by eight bytes that say no more than MaxTotal
	sound  []byte // bytes of the part, of leaves that were read
	pieces []piece
	at     int
	why    api.Errno
}

// listen reads the form of a part by chapter 18's words.
func listen(t testing.TB, x api.Tree, digest, form []byte, from, n uint64) heard {
	t.Helper()
	return listenFor(x, form, from, n, digest, func(c api.Call, above []byte) bool {
		return bytes.Equal(output(t, c), above)
	})
}

// measure reads the whole laid form likewise, but looks at lengths alone.
func measure(x api.Tree, form []byte) heard {
	return listenFor(x, form, 0, mostNumber, make([]byte, x.Digest), func(api.Call, []byte) bool { return true })
}

// listenFor reads the form of a part whose pieces have to be right.
func listenFor(x api.Tree, form []byte, from, n uint64, digest []byte, right func(c api.Call, above []byte) bool) heard {
	if len(form) < 8 {
		return heard{why: api.ErrShort}
	}
	h := heard{total: binary.LittleEndian.Uint64(form), told: true, at: 8}
	if h.total > 1<<40 {
		return heard{why: api.ErrTotal}
	}
	l := lieOf(x, h.total)
	first, last := l.wanted(from, n)
	begin, end := l.spread(from, n)
	var down func(row int, at uint64, above []byte) api.Errno
	down = func(row int, at uint64, above []byte) api.Errno {
		if lo, hi := l.leaves(row, at); hi < first || lo > last {
			return api.OK
		}
		size := l.size(row, at)
		if size > uint64(len(form)-h.at) {
			return api.ErrShort
		}
		data := form[h.at : h.at+int(size)]
		if !right(l.call(row, at, data), above) {
			return api.ErrFalse
		}
		h.pieces = append(h.pieces, piece{row, at, h.at, data})
		h.at += int(size)
		head, tail := l.below(row, at)
		if row == 0 {
			for i, c := range data {
				if place := head + uint64(i); begin <= place && place < end {
					h.sound = append(h.sound, c)
				}
			}
			return api.OK
		}
		for child := head; child < tail; child++ {
			i := int(child-head) * x.Inner
			if e := down(row-1, child, data[i:i+x.Inner]); e != api.OK {
				return e
			}
		}
		return api.OK
	}
	h.why = down(l.root(), 0, digest)
	if h.why == api.OK && h.at < len(form) {
		h.why = api.ErrMore
	}
	if h.why == api.OK {
		h.at = 0
	}
	return h
}

// wantAsHeard holds what Read and ReadPart answer of a form against the words.
func wantAsHeard(t testing.TB, what string, x api.Tree, digest, form []byte, from, n uint64) heard {
	t.Helper()
	h := listen(t, x, digest, form, from, n)
	if h.why != api.OK {
		wantReadPart(t, what, x, digest, form, from, n, nil, 0, h.at, h.why)
		return h
	}
	wantReadPart(t, what, x, digest, form, from, n, h.sound, h.total, 0, api.OK)
	return h
}

// wantReadAsHeard is that of a whole laid form.
func wantReadAsHeard(t testing.TB, what string, x api.Tree, digest, form []byte) heard {
	t.Helper()
	h := listen(t, x, digest, form, 0, mostNumber)
	if h.why != api.OK {
		wantRead(t, what, x, digest, form, nil, h.at, h.why)
		return h
	}
	wantRead(t, what, x, digest, form, h.sound, 0, api.OK)
	return h
}

// wantPartAsHeard holds what Part answers of a form, whatever its pieces are, against the words.
func wantPartAsHeard(t testing.TB, what string, x api.Tree, form []byte, from, n uint64) {
	t.Helper()
	h := measure(x, form)
	if h.why != api.OK {
		wantPart(t, what, x, form, from, n, nil, h.at, h.why)
		return
	}
	wantPart(t, what, x, form, from, n, join(h.total, kept(x, h.total, h.pieces, from, n)), 0, api.OK)
}
