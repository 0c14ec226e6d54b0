package clash

import (
	"quern/api"
	"quern/lane"
	"quern/shape"
	"quern/tree"
)

// byTree is hashing by a tree.
type byTree struct {
	tree api.Tree
}

func (h byTree) digest(data []byte) []byte {
	return sure(tree.Hash(h.tree, data))
}

func (h byTree) rows(data []byte) [][]api.Call {
	calls := sure(tree.Calls(h.tree, data))
	var rows [][]api.Call
	for _, n := range sure(shape.Rows(h.tree, uint64(len(data)))) {
		rows = append(rows, calls[:n])
		calls = calls[n:]
	}
	return rows
}

// byLanes is hashing over lanes.
type byLanes struct {
	kind                api.Kind
	size                int // of a digest
	key, salt, personal []byte
}

func (h byLanes) digest(data []byte) []byte {
	return sure(lane.Digest(h.kind, h.size, h.key, h.salt, h.personal, data))
}

func (h byLanes) rows(data []byte) [][]api.Call {
	calls := sure(lane.Calls(h.kind, h.size, h.key, h.salt, h.personal, data))
	root := len(calls) - 1
	return [][]api.Call{calls[:root], calls[root:]}
}
