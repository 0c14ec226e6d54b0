package node

import (
	"quern/api"
	"quern/word"
)

// mark is what all saved hashers begin with.
const mark = 'N'

func (s stream[W]) save() []byte {
	b := []byte{mark, byte(s.width.kind()), flagByte(s.last), byte(len(s.key))}
	b = append(b, s.block...)
	b = append(b, s.key...)
	b = append(b, s.width.lay(s.state)...)
	b = append(b, layCount(s.count, s.width.wordBytes())...)
	b = append(b, byte(s.held))
	return append(b, s.room[:s.held]...)
}

func flagByte(on bool) byte {
	if on {
		return 1
	}
	return 0
}

func layCount(c api.Count, wordBytes int) []byte {
	b := append(word.Store64(c.Lo), word.Store64(c.Hi)...)
	return b[:countWords*wordBytes]
}

// Load tells the hasher that was saved as b.
func Load(b []byte) (*Node, api.Errno) {
	r := reader{rest: b}
	h := readHasher(&r)
	if r.fault == api.OK && len(r.rest) > 0 {
		r.fault = api.ErrMore
	}
	if r.fault != api.OK {
		return nil, r.fault
	}
	return &Node{h}, api.OK
}

func readHasher(r *reader) hasher {
	r.want(r.take(1)[0] == mark)
	switch api.Kind(r.number(int(api.Small))) {
	case api.Big:
		return readStream[uint64](big{}, r)
	case api.Small:
		return readStream[uint32](small{}, r)
	}
	r.want(false)
	return nil
}

func readStream[W anyWord](w width[W], r *reader) stream[W] {
	last := r.number(1) == 1
	keyBytes := r.number(stateWords * w.wordBytes())
	block := r.take(stateWords * w.wordBytes())
	p, ok := told(w.kind(), block)
	r.want(ok && (keyBytes == 0 || keyBytes == p.Key))
	first := newStream(w, block, r.take(keyBytes))

	s := first
	s.last = last
	s.state = readState(w, r)
	s.count = readCount(w, r)
	r.want(s.count.Lo%uint64(s.blockBytes()) == 0)
	s.held = r.number(s.blockBytes())
	r.want(s.mayHold(s.held))
	copy(s.room[:], r.take(s.held))
	r.want(s.count != (api.Count{}) || s.state == first.state && s.holdsKey(first))
	return s
}

func readState[W anyWord](w width[W], r *reader) [stateWords]W {
	b := r.take(stateWords * w.wordBytes())
	var h [stateWords]W
	for i := range h {
		h[i] = w.word(b, i*w.wordBytes())
	}
	return h
}

func readCount[W anyWord](w width[W], r *reader) api.Count {
	// A count of BLAKE2s has no upper half: noughts stand for it.
	b := make([]byte, 16)
	copy(b, r.take(countWords*w.wordBytes()))
	lo, _ := word.Load64(b, 0)
	hi, _ := word.Load64(b, 8)
	return api.Count{Lo: lo, Hi: hi}
}

// mayHold tells whether there are messages of which, behind this count, so many bytes are held back.
func (s stream[W]) mayHold(held int) bool {
	switch {
	case s.count != api.Count{}:
		return held > 0
	case s.keyed():
		return held == s.blockBytes()
	}
	return true
}

// holdsKey tells whether s, into which no block has gone, holds the key's block back, if it has one.
func (s stream[W]) holdsKey(first stream[W]) bool {
	return !s.keyed() || s.room == first.room
}

// reader takes things off the front of a list and keeps the first fault; behind that, all that it tells is noughts.
type reader struct {
	rest  []byte
	fault api.Errno
}

func (r *reader) take(n int) []byte {
	if r.fault == api.OK && len(r.rest) < n {
		r.fault = api.ErrShort
	}
	if r.fault != api.OK {
		return make([]byte, n)
	}
	b := r.rest[:n]
	r.rest = r.rest[n:]
	return b
}

// number takes a byte that is to be at most most.
func (r *reader) number(most int) int {
	n := int(r.take(1)[0])
	r.want(n <= most)
	if r.fault != api.OK {
		return 0
	}
	return n
}

func (r *reader) want(good bool) {
	if r.fault == api.OK && !good {
		r.fault = api.ErrForm
	}
}
