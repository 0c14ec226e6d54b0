package clash

import (
	"bytes"
	"iter"

	"quern/api"
)

// hashing is a way of hashing messages by several calls. Where it refuses one, it gives up.
type hashing interface {
	digest(data []byte) []byte
	rows(data []byte) [][]api.Call // the calls of all nodes, from the leaves up to the root
}

// fault is what is given up with.
type fault struct {
	why api.Errno
}

// sure tells an answer, or gives up with the error beside it.
func sure[T any](answer T, e api.Errno) T {
	if e != api.OK {
		panic(fault{e})
	}
	return answer
}

// pair is two unlike calls of nodes at the same place of a level, and where the first one's node stands among its own rows.
type pair struct {
	first, second api.Call
	row           int
	at            uint64
}

// find tells the first pair of two messages with one digest, or why there is none to be told.
func find(h hashing, a, b []byte) (p pair, e api.Errno) {
	defer func() {
		if gaveUp := recover(); gaveUp != nil {
			p, e = pair{}, gaveUp.(fault).why
		}
	}()
	first, second := h.digest(a), h.digest(b)
	switch {
	case bytes.Equal(a, b):
		return pair{}, api.ErrSame
	case !bytes.Equal(first, second):
		return pair{}, api.ErrNone
	}
	return firstUnlike(h.rows(a), h.rows(b)), api.OK
}

// firstUnlike tells the first pair, level by level. What is alike above has as many nodes below it, so no node stands where the other message has none.
func firstUnlike(a, b [][]api.Call) pair {
	for l := range levels(a, b) {
		for at := range min(len(l.first), len(l.second)) {
			if Unlike(l.first[at], l.second[at]) {
				return pair{l.first[at], l.second[at], l.row, uint64(at)}
			}
		}
	}
	// Messages whose leaves are all alike would be the same.
	panic(fault{api.ErrNone})
}

// level is the nodes of two messages that lie equally far below their roots.
type level struct {
	row           int // of the first message
	first, second []api.Call
}

// levels gives those that both messages have, beginning with the roots, whichever rows these are in.
func levels(a, b [][]api.Call) iter.Seq[level] {
	return func(yield func(level) bool) {
		for down := range min(len(a), len(b)) {
			row, other := len(a)-1-down, len(b)-1-down
			if !yield(level{row, a[row], b[other]}) {
				return
			}
		}
	}
}
