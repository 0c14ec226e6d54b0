package tree

import (
	"bytes"
	"iter"

	"quern/api"
	"quern/param"
	"quern/shape"
)

// pieces tells a node's data by what lies below it, from one place up to another: bytes of the message, or nodes of a row.
type pieces func(from, to uint64) []byte

func bytesOf(data []byte) pieces {
	return func(from, to uint64) []byte { return data[from:to] }
}

func outputsOf(row [][]byte) pieces {
	return func(from, to uint64) []byte { return bytes.Join(row[from:to], nil) }
}

// calls gives the calls of a row's nodes, in order.
func (m message) calls(row int, below pieces) iter.Seq[api.Call] {
	return func(yield func(api.Call) bool) {
		for at := range m.rows[row] {
			s, _ := shape.Spot(m.tree, m.total, row, at)
			if !yield(callOf(m.tree, s, below(s.From, s.To))) {
				return
			}
		}
	}
}

// callOf tells a node's call, which shares the tree's key and data: who hands it out takes a copy.
func callOf(t api.Tree, s api.Spot, data []byte) api.Call {
	block, _ := param.Encode(t.Kind, paramsOf(t, s))
	c := api.Call{Kind: t.Kind, Block: block, Last: s.Last, Out: t.Inner, Data: data}
	if s.Row == 0 {
		c.Key = t.Key
	}
	if s.Root {
		c.Out = t.Digest
	}
	return c
}

// paramsOf tells a node's parameters by its place alone: a stream does not know how many bytes there will be, which shape would ask for.
func paramsOf(t api.Tree, s api.Spot) api.Params {
	return api.Params{
		Digest:    t.Digest,
		Key:       len(t.Key),
		Fanout:    t.Fanout,
		Depth:     t.Depth,
		Leaf:      t.Leaf,
		Offset:    s.At,
		NodeDepth: s.Row,
		Inner:     t.Inner,
		Salt:      t.Salt,
		Personal:  t.Personal,
	}
}

// ownCall tells a call with lists of its own.
func ownCall(c api.Call) api.Call {
	c.Key, c.Data = bytes.Clone(c.Key), bytes.Clone(c.Data)
	return c
}
