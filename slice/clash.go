package slice

import (
	"bytes"

	"quern/api"
	"quern/clash"
	"quern/shape"
	"quern/tree"
)

// Clash tells two unlike calls with one output, if a part tells something else than the message has there.
func Clash(t api.Tree, data, part []byte, from, n uint64) (api.Call, api.Call, api.Errno) {
	digest, e := tree.Hash(t, data)
	if e != api.OK {
		return api.Call{}, api.Call{}, e
	}
	told, _, _, e := ReadPart(t, digest, part, from, n)
	there := partOf(uint64(len(data)), from, n)
	if e != api.OK || bytes.Equal(told, data[there.from:there.to]) {
		return api.Call{}, api.Call{}, api.ErrNone
	}
	return firstUnlike(t, data, &scan{bytes: part}, from, n)
}

// firstUnlike tells the first call of a part, all pieces of which are sound, that is unlike that of the message at the same place, and that one ahead of it.
func firstUnlike(t api.Tree, data []byte, part *scan, from, n uint64) (api.Call, api.Call, api.Errno) {
	rows := callRows(t, data)
	f := formOf(t, part.total(), from, n)
	for p := range part.pieces(f) {
		// Nodes that are alike have as many children, and as many rows below them: there is a node here as long as all above were alike.
		row := rows[len(rows)-len(f.rows)+p.spot.Row]
		first, second := row[p.spot.At], f.call(p.spot, p.data)
		if clash.Unlike(first, second) {
			second.Key, second.Data = bytes.Clone(second.Key), bytes.Clone(second.Data)
			return first, second, api.OK
		}
	}
	// A part whose calls are all those of the message would tell just its bytes.
	return api.Call{}, api.Call{}, api.ErrNone
}

// callRows tells the calls of all nodes of a message, row by row, from the leaves on.
func callRows(t api.Tree, data []byte) [][]api.Call {
	calls, _ := tree.Calls(t, data)
	counts, _ := shape.Rows(t, uint64(len(data)))
	rows := make([][]api.Call, len(counts))
	for row, nodes := range counts {
		rows[row], calls = calls[:nodes], calls[nodes:]
	}
	return rows
}
