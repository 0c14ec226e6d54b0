package tree

import (
	"bytes"
	"slices"

	"quern/api"
	"quern/shape"
)

// Stream takes a message piece by piece.
type Stream struct {
	tree   api.Tree      // its kind is none: no call made the stream
	leaves uint64        // that are settled
	open   stack[[]byte] // outputs of the settled nodes whose node above is not settled; never changed, so that forks may share them
	held   []byte        // of the leaf that is not settled
}

// New tells a stream that has taken nothing.
func New(t api.Tree) (*Stream, api.Errno) {
	if e := shape.Valid(t); e != api.OK {
		return nil, e
	}
	t.Key, t.Salt, t.Personal = bytes.Clone(t.Key), bytes.Clone(t.Salt), bytes.Clone(t.Personal)
	return &Stream{tree: t}, api.OK
}

func (s *Stream) made() bool {
	return s != nil && s.tree.Kind != 0
}

// Write takes b behind all that was taken.
func (s *Stream) Write(b []byte) api.Errno {
	if !s.made() {
		return api.ErrZero
	}
	for len(b) > 0 {
		// Only now is it known that a full leaf isn't the last one.
		if s.room() == 0 {
			s.settle()
		}
		b = b[s.fill(b):]
	}
	return api.OK
}

// room tells how many bytes the leaf still takes.
func (s *Stream) room() uint64 {
	return uint64(s.tree.Leaf) - uint64(len(s.held))
}

// fill lays the first bytes of b into the leaf, as many as it takes, and tells how many.
func (s *Stream) fill(b []byte) int {
	n := int(min(s.room(), uint64(len(b))))
	from := len(s.held)
	// A leaf may be far longer than its message: the buffer grows with what comes.
	s.held = slices.Grow(s.held, n)[:from+n]
	return copy(s.held[from:], b)
}

// settle hashes the leaf, which is full; what is full by it goes up, row by row.
func (s *Stream) settle() {
	spot := api.Spot{At: s.leaves}
	out := s.output(spot, s.held)
	s.held = s.held[:0]
	s.leaves++
climb:
	for {
		s.open.push(spot.Row, out)
		children := s.open.row(spot.Row)
		switch {
		case s.bound(spot.Row + 1):
			// The root takes all of them, once the message ends.
			break climb
		case len(children) < s.tree.Fanout:
			break climb
		}
		s.open.empty(spot.Row)
		spot = api.Spot{Row: spot.Row + 1, At: spot.At / uint64(s.tree.Fanout)}
		out = s.output(spot, bytes.Join(children, nil))
	}
}

// bound tells whether that row has one node, the root, whatever is below it.
func (s *Stream) bound(row int) bool {
	return s.tree.Fanout == 0 || row == s.tree.Depth-1
}

func (s *Stream) output(spot api.Spot, data []byte) []byte {
	return output(callOf(s.tree, spot, data))
}

// Sum tells the digest of all that was taken.
func (s *Stream) Sum() []byte {
	if !s.made() {
		return nil
	}
	spot := api.Spot{At: s.leaves, Last: true}
	out := s.output(spot, s.held)
	for !spot.Root {
		children := append(s.open.row(spot.Row), out)
		spot = s.above(spot)
		out = s.output(spot, bytes.Join(children, nil))
	}
	return out
}

// above tells the last node of the row over that of a last one.
func (s *Stream) above(last api.Spot) api.Spot {
	spot := api.Spot{Row: last.Row + 1, Last: true}
	if !s.bound(spot.Row) {
		spot.At = last.At / uint64(s.tree.Fanout)
	}
	// The last one that is the first one too is alone in its row.
	spot.Root = spot.At == 0
	return spot
}

// Reset lets go of all that was taken.
func (s *Stream) Reset() api.Errno {
	if !s.made() {
		return api.ErrZero
	}
	*s = Stream{tree: s.tree}
	return api.OK
}

// Taken tells how many bytes were taken.
func (s *Stream) Taken() uint64 {
	if !s.made() {
		return 0
	}
	return s.leaves*uint64(s.tree.Leaf) + uint64(len(s.held))
}

// Held tells how many of the taken bytes belong to leaves that are not settled.
func (s *Stream) Held() int {
	if !s.made() {
		return 0
	}
	return len(s.held)
}

// Open tells of each row how many of its settled nodes have a node above them that is not settled.
func (s *Stream) Open() []int {
	if !s.made() {
		return nil
	}
	// The highest row is never empty: what leaves a row lies in the next one.
	return s.open.lengths()
}

// Fork tells a stream of its own that has taken the same.
func (s *Stream) Fork() *Stream {
	if !s.made() {
		return nil
	}
	return &Stream{tree: s.tree, leaves: s.leaves, open: s.open.clone(), held: bytes.Clone(s.held)}
}
