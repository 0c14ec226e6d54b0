package sched

import (
	"math"

	"quern/api"
)

// sizesFit tells whether a system has as many programs, instructions and shared things as it may have.
func sizesFit(s api.System) bool {
	if !within(len(s.Progs), 1, api.MaxProgs) || len(s.Rooms) > api.MaxShared {
		return false
	}
	for _, prog := range s.Progs {
		if len(prog) > api.MaxInsts {
			return false
		}
	}
	for _, room := range s.Rooms {
		if !within(room, 1, api.MaxRoom) {
			return false
		}
	}
	return within(s.Groups, 0, api.MaxShared) && within(s.Locks, 0, api.MaxShared) && within(s.Cells, 0, api.MaxShared)
}

func within(n, least, most int) bool {
	return least <= n && n <= most
}

// word is what a field of an instruction stands for.
type word int

const (
	nothing word = iota
	register
	number
	place
	channelWord
	lockWord
	groupWord
	program
)

// row is what A, B and C of an operation stand for.
type row struct {
	a, b, c word
}

// rowOf tells the row of an operation, and whether a system with so many cells may have it.
func rowOf(op, cells int) (row, bool) {
	switch op {
	case api.OpSet:
		return row{a: register, b: number}, true
	case api.OpRead, api.OpWrite:
		if cells == 0 {
			return row{}, false
		}
		fallthrough
	case api.OpSum:
		return row{a: register, b: register}, true
	case api.OpLess:
		return row{a: register, b: register, c: place}, true
	case api.OpJump:
		return row{c: place}, true
	case api.OpSend:
		return row{a: channelWord, b: register}, true
	case api.OpTake:
		return row{a: channelWord, b: register, c: place}, true
	case api.OpClose:
		return row{a: channelWord}, true
	case api.OpLock, api.OpFree:
		return row{a: lockWord}, true
	case api.OpAdd:
		return row{a: groupWord, b: number}, true
	case api.OpWait:
		return row{a: groupWord}, true
	case api.OpStart:
		return row{a: program}, true
	case api.OpWork:
		return row{a: number, b: register}, true
	case api.OpEnd:
		return row{}, true
	}
	return row{}, false
}

// instFits tells whether an instruction may stand in a program of so many.
func instFits(s api.System, insts int, i api.Inst) bool {
	r, ok := rowOf(i.Op, s.Cells)
	return ok && fieldFits(s, insts, r.a, i.A) && fieldFits(s, insts, r.b, i.B) && fieldFits(s, insts, r.c, i.C)
}

func fieldFits(s api.System, insts int, w word, n int) bool {
	least, most := bounds(s, insts, w)
	return within(n, least, most)
}

// bounds tells the least and the greatest value of a field; of what a system has none of, the least is above the greatest.
func bounds(s api.System, insts int, w word) (least, most int) {
	switch w {
	case register:
		return 0, api.Registers - 1
	case number:
		return math.MinInt, math.MaxInt
	case place:
		return 0, insts
	case channelWord:
		return 0, len(s.Rooms) - 1
	case lockWord:
		return 0, s.Locks - 1
	case groupWord:
		return 0, s.Groups - 1
	case program:
		return 0, len(s.Progs) - 1
	}
	return 0, 0
}
