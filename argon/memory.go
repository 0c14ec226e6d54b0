package argon

import (
	"bytes"
	"slices"
	"sync"

	"quern/api"
	"quern/long"
	"quern/word"
)

// columnsBegun is how many columns of a lane come of the start, and not of mixing.
const columnsBegun = 2

// memory is the blocks of a grid, lane by lane.
type memory struct {
	grid
	blocks []block
}

// begun tells a memory of which the first columns of each lane are laid down.
func begun(a api.Argon, start []byte) memory {
	g := gridOf(a)
	m := memory{grid: g, blocks: make([]block, a.Lanes*g.columns)}
	for lane := range a.Lanes {
		for column := range columnsBegun {
			b, _ := long.Hash(api.BlockBytes, slices.Concat(start, number(column), number(lane)))
			copy(m.block(lane, column)[:], b)
		}
	}
	return m
}

func (m memory) block(lane, column int) *block {
	return &m.blocks[lane*m.columns+column]
}

// fill goes through all slices of all passes; each is finished ahead of the next one, as its blocks are read there.
func (m memory) fill(fillSlice func(pass, slice int)) {
	for pass := range m.a.Passes {
		for slice := range slicesOfPass {
			fillSlice(pass, slice)
		}
	}
}

// inTurn fills a slice lane by lane.
func (m memory) inTurn(pass, slice int) {
	for lane := range m.a.Lanes {
		m.fillSegment(segment{pass, slice, lane})
	}
}

// beside fills a slice by a goroutine for each lane; none reads what another one writes, as of other lanes only finished slices are read.
func (m memory) beside(pass, slice int) {
	var all sync.WaitGroup
	for lane := range m.a.Lanes {
		all.Add(1)
		go func() {
			defer all.Done()
			m.fillSegment(segment{pass, slice, lane})
		}()
	}
	all.Wait()
}

func (m memory) fillSegment(s segment) {
	draw := m.drawer(s)
	for x := s.firstPlace(); x < m.width; x++ {
		column := s.slice*m.width + x
		ahead := m.block(s.lane, (column+m.columns-1)%m.columns)
		lane, other := m.refer(s, x, draw(x, ahead))
		lay(m.block(s.lane, column), ahead, m.block(lane, other))
	}
}

// drawer tells what draws the number for the block at a place of a segment, of the block ahead of it.
func (m memory) drawer(s segment) func(x int, ahead *block) uint64 {
	if !m.byAddresses(s) {
		return func(_ int, ahead *block) uint64 {
			j, _ := word.Load64(ahead[:], 0)
			return j
		}
	}
	list := m.addresses(s)
	return func(x int, _ *block) uint64 { return list[x] }
}

// byAddresses: nothing that is hashed tells which blocks are read.
func (m memory) byAddresses(s segment) bool {
	half := s.pass == 0 && s.slice < slicesOfPass/2
	return m.a.Kind == api.ArgonI || m.a.Kind == api.ArgonID && half
}

// lay mixes two blocks over what stands at the place to: in the first pass that is noughts, which change nothing.
func lay(to, x, y *block) {
	b, _ := long.Over(x[:], y[:], to[:])
	copy(to[:], b)
}

// lists tells the blocks, each in memory of its own.
func (m memory) lists() [][]byte {
	list := make([][]byte, len(m.blocks))
	for i := range m.blocks {
		list[i] = bytes.Clone(m.blocks[i][:])
	}
	return list
}
