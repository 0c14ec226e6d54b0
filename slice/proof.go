package slice

import (
	"quern/api"
	"quern/node"
	"quern/word"
)

// proof is what the nodes of a form have to give, as far as the pieces above them tell it.
type proof struct {
	form   form
	digest []byte
	given  []outputs // by row, of the children of the node above whose piece came last; they are the form's own bytes
}

// outputs are those of nodes of one row, one behind the other, and the place of the first one.
type outputs struct {
	from  uint64
	bytes []byte
}

func proofOf(f form, digest []byte) proof {
	return proof{form: f, digest: digest, given: make([]outputs, len(f.rows))}
}

// sound tells whether a node's piece is; then it tells what is asked of the nodes below.
func (p proof) sound(s api.Spot, data []byte) bool {
	// Each node of a tree that may be has a call that node takes.
	output, _ := node.Call(p.form.call(s, data))
	if !word.Same(output, p.above(s)) {
		return false
	}
	if s.Row > 0 {
		p.given[s.Row-1] = outputs{s.From, data}
	}
	return true
}

// above tells the output that stands above a node's piece.
func (p proof) above(s api.Spot) []byte {
	if s.Root {
		return p.digest
	}
	given, inner := p.given[s.Row], uint64(p.form.tree.Inner)
	at := (s.At - given.from) * inner
	return given.bytes[at : at+inner]
}
