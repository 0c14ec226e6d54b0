package xof

import (
	"bytes"

	"quern/api"
	"quern/node"
)

// longestPiece is the bytes of a piece of Big; those of Small have room in it.
const longestPiece = 64

// Stream takes a message, and then gives the bytes that come of it.
type Stream struct {
	plan  plan
	hash  *node.Node               // over the message; kept while the stream gives, for Reset
	write func(b []byte) api.Errno // what Write does: take or refuse; nil: no call made the stream
	root  []byte                   // nil while the stream takes; never changed, so that copies may share it
	at    uint64                   // bytes read and let go
	piece [longestPiece]byte
	rest  int // bytes at the end of piece that are the next ones of the stream
}

// New tells a stream that takes, to which nothing was written.
func New(k api.Kind, length int, key, salt, personal []byte) (*Stream, api.Errno) {
	p, e := planOf(k, length, len(key), salt, personal)
	if e != api.OK {
		return nil, e
	}
	p.salt, p.personal = bytes.Clone(salt), bytes.Clone(personal)
	hash, _ := node.New(k, p.rootParams(len(key)), key)
	s := &Stream{plan: p, hash: hash}
	s.write = s.take
	return s, api.OK
}

func (s *Stream) made() bool {
	return s != nil && s.write != nil
}

// Write lays b behind the message, while the stream takes.
func (s *Stream) Write(b []byte) api.Errno {
	if !s.made() {
		return api.ErrZero
	}
	return s.write(b)
}

// take is Write of a stream that takes.
func (s *Stream) take(b []byte) api.Errno {
	return s.hash.Write(b)
}

// refuse is Write of a stream that gives.
func (s *Stream) refuse([]byte) api.Errno {
	return api.ErrState
}

func (s *Stream) gives() bool {
	return s.root != nil
}

// give ends the message, if it hasn't ended.
func (s *Stream) give() {
	if !s.gives() {
		s.root = s.hash.Sum()
		s.write = s.refuse
	}
}

// Read tells the next n bytes of the stream, or as many as are left.
func (s *Stream) Read(n int) ([]byte, api.Errno) {
	if !s.made() {
		return nil, api.ErrZero
	}
	if !mayTake(n) {
		return nil, api.ErrArg
	}
	s.give()
	left := s.Left()
	if n > 0 && left == 0 {
		return nil, api.ErrEnd
	}
	out := make([]byte, min(uint64(n), left))
	for got := 0; got < len(out); {
		got += s.draw(out[got:])
	}
	return out, api.OK
}

// draw moves bytes of one piece to out, and tells how many; out isn't empty, and not all is read.
func (s *Stream) draw(out []byte) int {
	if s.rest == 0 {
		s.fill()
	}
	n := copy(out, s.piece[longestPiece-s.rest:])
	s.rest -= n
	s.at += uint64(n)
	return n
}

// fill makes the piece in which the next byte stands; that isn't always its first one, behind a Skip.
func (s *Stream) fill() {
	size := uint64(s.plan.size)
	b := s.plan.piece(s.root, s.at/size)
	copy(s.piece[longestPiece-len(b):], b)
	s.rest = len(b) - int(s.at%size)
}

// Skip lets the next n bytes of the stream go, or as many as are left, and tells how many; no piece is made for them.
func (s *Stream) Skip(n uint64) (uint64, api.Errno) {
	if !s.made() {
		return 0, api.ErrZero
	}
	s.give()
	left := s.Left()
	if n > 0 && left == 0 {
		return 0, api.ErrEnd
	}
	n = min(n, left)
	s.rest -= int(min(n, uint64(s.rest)))
	s.at += n
	return n, api.OK
}

// At tells how many bytes were read and let go.
func (s *Stream) At() uint64 {
	if !s.made() {
		return 0
	}
	return s.at
}

// Left tells how many bytes are left.
func (s *Stream) Left() uint64 {
	if !s.made() {
		return 0
	}
	return s.plan.total - s.at
}

// Copy tells a stream of its own that goes on from here.
func (s *Stream) Copy() *Stream {
	if !s.made() {
		return nil
	}
	c := *s
	c.hash = s.hash.Copy()
	// What Write does is bound to s: the copy has to have its own.
	c.write = c.take
	if c.gives() {
		c.write = c.refuse
	}
	return &c
}

// Reset lets the stream take again, nothing written.
func (s *Stream) Reset() api.Errno {
	if !s.made() {
		return api.ErrZero
	}
	s.hash.Reset()
	*s = Stream{plan: s.plan, hash: s.hash}
	s.write = s.take
	return api.OK
}
