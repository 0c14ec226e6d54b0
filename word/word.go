// Package word is layer 1: words laid down in bytes with their lowest byte first, turned and counted; bytes cut, compared, and told as text. See shared/doc/01-word.md.
package word

import (
	"math/bits"

	"quern/api"
)

// Load32 tells the word of four bytes that stands in b from at on.
func Load32(b []byte, at int) (uint32, api.Errno) {
	w, e := load(b, at, 4)
	return uint32(w), e
}

// Load64 tells the word of eight bytes that stands in b from at on.
func Load64(b []byte, at int) (uint64, api.Errno) {
	return load(b, at, 8)
}

func load(b []byte, at, size int) (uint64, api.Errno) {
	if at < 0 {
		return 0, api.ErrArg
	}
	// The difference stays within an int at every place; at + size would not.
	if len(b)-at < size {
		return 0, api.ErrShort
	}
	var w uint64
	for i := range size {
		w |= uint64(b[at+i]) << (8 * i)
	}
	return w, api.OK
}

// Store32 lays w down in four bytes.
func Store32(w uint32) []byte {
	return store(uint64(w), 4)
}

// Store64 lays w down in eight bytes.
func Store64(w uint64) []byte {
	return store(w, 8)
}

func store(w uint64, size int) []byte {
	b := make([]byte, size)
	for i := range size {
		b[i] = byte(w >> (8 * i))
	}
	return b
}

// Turn32 turns w right by n bits, or left where n is below 0.
func Turn32(w uint32, n int) uint32 {
	// The low bits are n's rest below 0, too, where % would tell another one.
	return bits.RotateLeft32(w, -(n & 31))
}

// Turn64 turns w right by n bits, or left where n is below 0.
func Turn64(w uint64, n int) uint64 {
	return bits.RotateLeft64(w, -(n & 63))
}

// Add tells the sum modulo 2^128, and whether it went past that.
func Add(c api.Count, n uint64) (api.Count, bool) {
	lo, carry := bits.Add64(c.Lo, n, 0)
	hi, over := bits.Add64(c.Hi, 0, carry)
	return api.Count{Lo: lo, Hi: hi}, over != 0
}

// Cut tells b in pieces of n bytes, the last one as long as what is left.
func Cut(b []byte, n int) ([][]byte, api.Errno) {
	if n < 1 {
		return nil, api.ErrArg
	}
	whole := make([]byte, len(b))
	copy(whole, b)
	pieces := make([][]byte, 0, pieceCount(len(b), n))
	for len(whole) > 0 {
		size := min(n, len(whole))
		// Each piece's room ends with it, so that what is appended to one never reaches the next.
		pieces = append(pieces, whole[:size:size])
		whole = whole[size:]
	}
	return pieces, api.OK
}

func pieceCount(length, n int) int {
	count := length / n
	if length%n > 0 {
		count++
	}
	return count
}

// Same tells whether a and b have the same bytes.
func Same(a, b []byte) bool {
	if len(a) != len(b) {
		return false
	}
	// All bytes are looked at, so that the time taken doesn't tell how far a wrong tag is right.
	var unlike byte
	for i := range len(a) {
		unlike |= a[i] ^ b[i]
	}
	return unlike == 0
}
