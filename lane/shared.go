package lane

import (
	"bytes"

	"quern/api"
	"quern/node"
	"quern/param"
)

// mostLanes is how many lanes the kind with most of them has.
const mostLanes = 8

// shared is what all nodes of a message have in common. Of the key it is the length alone: its bytes are none of the root's.
type shared struct {
	kind           api.Kind
	digest         int
	key            int
	salt, personal []byte
}

// sharedOf tells what the nodes have in common, or the error of the root's parameters.
func sharedOf(k api.Kind, digest, key int, salt, personal []byte) (shared, api.Errno) {
	s := shared{kind: k, digest: digest, key: key, salt: salt, personal: personal}
	if e := param.Check(k, s.root().params()); e != api.OK {
		return shared{}, e
	}
	return s, api.OK
}

// lanes tells how many there are; of a kind that is none, none.
func (s shared) lanes() int {
	switch s.kind {
	case api.Big:
		return 4
	case api.Small:
		return 8
	}
	return 0
}

func (s shared) blockBytes() int {
	if s.kind == api.Small {
		return 64
	}
	return 128
}

// roundBytes tells the bytes behind which it is the first lane's turn again.
func (s shared) roundBytes() int {
	return s.lanes() * s.blockBytes()
}

// inner tells the bytes of a lane's output.
func (s shared) inner() int {
	most, _ := param.Most(s.kind)
	return most
}

func (s shared) lane(at int) strand {
	return strand{s, at}
}

func (s shared) root() strand {
	return strand{s, s.lanes()}
}

// strand is one node: that of lane at, or the root's, if at is the lanes' number.
type strand struct {
	shared
	at int
}

func (n strand) isRoot() bool {
	return n.at == n.lanes()
}

func (n strand) params() api.Params {
	p := api.Params{
		Digest:   n.digest,
		Key:      n.key,
		Fanout:   n.lanes(),
		Depth:    2,
		Inner:    n.inner(),
		Salt:     n.salt,
		Personal: n.personal,
	}
	if n.isRoot() {
		p.NodeDepth = 1
	} else {
		p.Offset = uint64(n.at)
	}
	return p
}

// last tells the last-node flag: each of the two rows has one node that is its last.
func (n strand) last() bool {
	return n.isRoot() || n.at == n.lanes()-1
}

func (n strand) out() int {
	if n.isRoot() {
		return n.digest
	}
	return n.inner()
}

// call tells the node's call over data, which it keeps; of the key it takes a copy.
func (n strand) call(key, data []byte) api.Call {
	block, _ := param.Encode(n.kind, n.params())
	return api.Call{
		Kind:  n.kind,
		Block: block,
		Key:   bytes.Clone(key),
		Last:  n.last(),
		Out:   n.out(),
		Data:  data,
	}
}

// rootCall tells the root's call over the lanes' outputs.
func (s shared) rootCall(outputs [][]byte) api.Call {
	return s.root().call(nil, bytes.Join(outputs, nil))
}

// hasher tells the node's hasher, to which nothing was written.
func (n strand) hasher(key []byte) *node.Node {
	h, _ := node.New(n.kind, n.params(), key)
	h.Last(n.last())
	return h
}
