package node

import (
	"quern/api"
	"quern/mixb"
	"quern/mixs"
	"quern/word"
)

// anyWord is the words that the two kinds reckon with.
type anyWord interface {
	uint32 | uint64
}

// Lengths that the kinds share when they are told in words, and the longest block in bytes.
const (
	stateWords = 8
	blockWords = 16
	countWords = 2
	roomBytes  = 128
)

// room has space for a block of either kind, at its front.
type room [roomBytes]byte

// width is what the two kinds differ in.
type width[W anyWord] interface {
	kind() api.Kind
	wordBytes() int
	word(b []byte, at int) W
	start(block []byte) [stateWords]W
	mix(h [stateWords]W, r room, count api.Count, last, node bool) [stateWords]W
	lay(h [stateWords]W) []byte
}

type big struct{}

func (big) kind() api.Kind { return api.Big }

func (big) wordBytes() int { return 8 }

func (big) word(b []byte, at int) uint64 {
	w, _ := word.Load64(b, at)
	return w
}

func (big) start(block []byte) [stateWords]uint64 {
	h, _ := mixb.Start(block)
	return h
}

func (big) mix(h [stateWords]uint64, r room, count api.Count, last, node bool) [stateWords]uint64 {
	m, _ := mixb.Words(r[:])
	return mixb.F(h, m, count, last, node)
}

func (big) lay(h [stateWords]uint64) []byte { return mixb.Bytes(h) }

type small struct{}

func (small) kind() api.Kind { return api.Small }

func (small) wordBytes() int { return 4 }

func (small) word(b []byte, at int) uint32 {
	w, _ := word.Load32(b, at)
	return w
}

func (small) start(block []byte) [stateWords]uint32 {
	h, _ := mixs.Start(block)
	return h
}

func (small) mix(h [stateWords]uint32, r room, count api.Count, last, node bool) [stateWords]uint32 {
	m, _ := mixs.Words(r[:roomBytes/2])
	return mixs.F(h, m, count.Lo, last, node)
}

func (small) lay(h [stateWords]uint32) []byte { return mixs.Bytes(h) }
