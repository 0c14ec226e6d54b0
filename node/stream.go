package node

import (
	"quern/api"
	"quern/param"
	"quern/word"
)

// stream is a hasher of one width of words.
type stream[W anyWord] struct {
	width width[W]
	// Streams are handed on as values: the block and the key are texts, since nobody can change those.
	block string
	key   string
	last  bool // the last-node flag
	state [stateWords]W
	count api.Count // bytes of the message that have gone in
	room  room      // what is held back; behind it anything may lie
	held  int
}

// newStream tells a stream to which nothing was written.
func newStream[W anyWord](w width[W], block, key []byte) stream[W] {
	s := stream[W]{width: w, block: string(block), key: string(key), state: w.start(block)}
	if s.keyed() {
		copy(s.room[:], key)
		s.held = s.blockBytes()
	}
	return s
}

func (s stream[W]) keyed() bool {
	return len(s.key) > 0
}

func (s stream[W]) blockBytes() int {
	return blockWords * s.width.wordBytes()
}

func (s stream[W]) stateBytes() int {
	return stateWords * s.width.wordBytes()
}

func (s stream[W]) digestBytes() int {
	n, _ := param.Get(s.width.kind(), []byte(s.block), api.FieldDigest)
	return int(n)
}

func (s stream[W]) anew() hasher {
	return newStream(s.width, []byte(s.block), []byte(s.key))
}

func (s stream[W]) flagged(last bool) hasher {
	s.last = last
	return s
}

func (s stream[W]) write(b []byte) hasher {
	size := s.blockBytes()
	for len(b) > 0 {
		// Only now is it known that a full block isn't the last one.
		if s.held == size {
			s = s.goneIn(false)
		}
		n := copy(s.room[s.held:size], b)
		s.held += n
		b = b[n:]
	}
	return s
}

// goneIn tells s behind what is held back, with noughts up to a block.
func (s stream[W]) goneIn(last bool) stream[W] {
	clear(s.room[s.held:])
	s.count, _ = word.Add(s.count, uint64(s.held))
	s.state = s.width.mix(s.state, s.room, s.count, last, last && s.last)
	s.held = 0
	return s
}

func (s stream[W]) output() []byte {
	return s.width.lay(s.goneIn(true).state)
}

func (s stream[W]) written() uint64 {
	n := s.count.Lo + uint64(s.held)
	if s.keyed() {
		n -= uint64(s.blockBytes())
	}
	return n
}
