package argon

import (
	"quern/api"
	"quern/long"
	"quern/word"
)

const (
	slicesOfPass = 4
	numberBytes  = 8
)

// block is one of the memory's.
type block [api.BlockBytes]byte

// grid is how the blocks of a setting's memory lie.
type grid struct {
	a       api.Argon
	columns int // of a lane
	width   int // of a segment, in columns
}

// segment is what one lane has in one slice of one pass.
type segment struct {
	pass, slice, lane int
}

// gridOf tells the grid of a setting that may be.
func gridOf(a api.Argon) grid {
	width := a.Memory / (slicesOfPass * a.Lanes)
	return grid{a: a, columns: slicesOfPass * width, width: width}
}

// Addresses tells the numbers that a segment's blocks have by addresses, whatever the kind draws there.
func Addresses(a api.Argon, pass, slice, lane int) ([]uint64, api.Errno) {
	s := segment{pass, slice, lane}
	if e := fault(a); e != api.OK {
		return nil, e
	}
	if !s.isOf(a) {
		return nil, api.ErrArg
	}
	return gridOf(a).addresses(s), api.OK
}

// Refer tells the lane and the column of the block that the number j draws, for the block at the place x of a segment.
func Refer(a api.Argon, pass, slice, lane, x int, j uint64) (int, int, api.Errno) {
	s := segment{pass, slice, lane}
	if e := fault(a); e != api.OK {
		return 0, 0, e
	}
	g := gridOf(a)
	if !s.isOf(a) || x < s.firstPlace() || x >= g.width {
		return 0, 0, api.ErrArg
	}
	l, column := g.refer(s, x, j)
	return l, column, api.OK
}

func (s segment) isOf(a api.Argon) bool {
	return isPlace(s.pass, a.Passes) && isPlace(s.slice, slicesOfPass) && isPlace(s.lane, a.Lanes)
}

func isPlace(at, n int) bool { return at >= 0 && at < n }

// isFirst: no other lane has a block yet that may be read.
func (s segment) isFirst() bool { return s.pass == 0 && s.slice == 0 }

// firstPlace tells the first place of a block that is mixed; those ahead of it are begun.
func (s segment) firstPlace() int {
	if s.isFirst() {
		return columnsBegun
	}
	return 0
}

// addresses tells the numbers of a segment that is one of the grid's.
func (g grid) addresses(s segment) []uint64 {
	list := make([]uint64, 0, g.width)
	for n := 1; len(list) < g.width; n++ {
		b := g.addressBlock(s, n)
		for at := 0; at < len(b) && len(list) < g.width; at += numberBytes {
			w, _ := word.Load64(b, at)
			list = append(list, w)
		}
	}
	return list
}

// addressBlock tells the n-th block of a segment's addresses, from 1 on.
func (g grid) addressBlock(s segment, n int) []byte {
	var noughts, b block
	for i, w := range [...]int{s.pass, s.lane, s.slice, g.a.Lanes * g.columns, g.a.Passes, g.a.Kind, n} {
		copy(b[numberBytes*i:], word.Store64(uint64(w)))
	}
	once, _ := long.Mix(noughts[:], b[:])
	twice, _ := long.Mix(noughts[:], once)
	return twice
}

// refer tells the lane and the column of the block that j draws; x is a place that is mixed.
func (g grid) refer(s segment, x int, j uint64) (lane, column int) {
	lane = s.lane
	if !s.isFirst() {
		lane = int((j >> 32) % uint64(g.a.Lanes))
	}
	area := g.area(s, x, lane)
	j1 := uint64(uint32(j))
	// Squared, a number draws blocks the oftener the nearer they are.
	p := j1 * j1 >> 32
	q := uint64(area) * p >> 32
	return lane, (g.oldest(s) + area - 1 - int(q)) % g.columns
}

// area tells how many blocks of a lane may be taken: those of the three finished slices, or in the first pass of as many as there are, and in its own lane those of the segment but the one ahead.
func (g grid) area(s segment, x, lane int) int {
	finished := slicesOfPass - 1
	if s.pass == 0 {
		finished = s.slice
	}
	if lane == s.lane {
		return finished*g.width + x - 1
	}
	// The one ahead of the segment's first block stands in a finished slice, and is not taken of other lanes either.
	if x == 0 {
		return finished*g.width - 1
	}
	return finished * g.width
}

// oldest tells the column of the block that was laid down first of those that may be taken.
func (g grid) oldest(s segment) int {
	if s.pass == 0 {
		return 0
	}
	return (s.slice + 1) % slicesOfPass * g.width
}
