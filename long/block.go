package long

import (
	"quern/api"
	"quern/word"
)

const (
	wordBytes  = 8
	blockWords = api.BlockBytes / wordBytes
	rowWords   = 16
	rows       = blockWords / rowWords
)

// block is the words of a block, handed on as a value.
type block [blockWords]uint64

// Xor tells the exclusive or of two blocks.
func Xor(x, y []byte) ([]byte, api.Errno) {
	if !areBlocks(x, y) {
		return nil, api.ErrArg
	}
	return blockOf(x).over(blockOf(y)).bytes(), api.OK
}

// Mix tells the block that two blocks are mixed to.
func Mix(x, y []byte) ([]byte, api.Errno) {
	if !areBlocks(x, y) {
		return nil, api.ErrArg
	}
	return blockOf(x).over(blockOf(y)).mixed().bytes(), api.OK
}

// Over tells the mix of two blocks, laid over an old one by exclusive or.
func Over(x, y, old []byte) ([]byte, api.Errno) {
	if !areBlocks(x, y, old) {
		return nil, api.ErrArg
	}
	return blockOf(x).over(blockOf(y)).mixed().over(blockOf(old)).bytes(), api.OK
}

func areBlocks(lists ...[]byte) bool {
	for _, b := range lists {
		if len(b) != api.BlockBytes {
			return false
		}
	}
	return true
}

// blockOf tells the words of a list that is as long as a block.
func blockOf(b []byte) block {
	var r block
	for i := range r {
		r[i], _ = word.Load64(b, wordBytes*i)
	}
	return r
}

func (r block) bytes() []byte {
	b := make([]byte, 0, api.BlockBytes)
	for _, w := range r {
		b = append(b, word.Store64(w)...)
	}
	return b
}

// over tells r laid over another block by exclusive or.
func (r block) over(other block) block {
	for i, w := range other {
		r[i] ^= w
	}
	return r
}

// mixed tells the mix of two blocks whose exclusive or is r.
func (r block) mixed() block {
	z := r
	through := func(places [rowWords]int) {
		var v [rowWords]uint64
		for i, at := range places {
			v[i] = z[at]
		}
		for i, w := range Perm(v) {
			z[places[i]] = w
		}
	}
	for i := range rows {
		through(pairs(rowWords*i, 2))
	}
	for i := range rows {
		through(pairs(2*i, rowWords))
	}
	return z.over(r)
}

// pairs tells the places of eight pairs of words, the first one at first, each so many words apart from the one ahead.
func pairs(first, apart int) [rowWords]int {
	var places [rowWords]int
	for i := range places {
		places[i] = first + apart*(i/2) + i%2
	}
	return places
}
