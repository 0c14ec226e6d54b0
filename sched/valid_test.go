package sched

import (
	"fmt"
	"math"
	"slices"
	"testing"

	"quern/api"
)

// ends are the int's.
var ends = []int{math.MinInt, math.MinInt + 1, math.MaxInt - 1, math.MaxInt}

func TestValidPrograms(t *testing.T) { // SC1: 1 to MaxProgs programs
	for n, ok := range map[int]bool{0: false, 1: true, 2: true, 63: true, 64: true, 65: false, 1000: false} {
		s := api.System{Progs: make([][]api.Inst, n)}
		wantSystem(t, fmt.Sprint(n, " programs"), s, ok)
	}
	wantSystem(t, "nothing", api.System{}, false)
	wantSystem(t, "a list of no programs", api.System{Progs: [][]api.Inst{}, Rooms: []int{1}, Groups: 1, Locks: 1, Cells: 1}, false)
	wantSystem(t, "an empty program", api.System{Progs: [][]api.Inst{{}}, Rooms: []int{}}, true)
}

func TestValidInstructions(t *testing.T) { // SC1: at most MaxInsts instructions, in each program
	for n, ok := range map[int]bool{0: true, 1: true, 255: true, 256: true, 257: false, 5000: false} {
		long := slices.Repeat(prog("Work"), n)
		wantSystem(t, fmt.Sprint(n, " instructions"), api.System{Progs: [][]api.Inst{long}}, ok)
		wantSystem(t, fmt.Sprint(n, " instructions in the second"), api.System{Progs: [][]api.Inst{nil, long}}, ok)
		many := make([][]api.Inst, 64)
		many[63] = long
		wantSystem(t, fmt.Sprint(n, " instructions in the last"), api.System{Progs: many}, ok)
	}
	all := slices.Repeat([][]api.Inst{slices.Repeat(prog("End"), 256)}, 64)
	wantSystem(t, "as many as may be", api.System{Progs: all, Rooms: slices.Repeat([]int{1024}, 64), Groups: 64, Locks: 64, Cells: 64}, true)
}

func TestValidChannels(t *testing.T) { // SC1: at most MaxShared channels, of rooms from 1 to MaxRoom
	for n, ok := range map[int]bool{0: true, 1: true, 63: true, 64: true, 65: false, 300: false} {
		s := bare("")
		s.Rooms = slices.Repeat([]int{1}, n)
		wantSystem(t, fmt.Sprint(n, " channels"), s, ok)
	}
	rooms := map[int]bool{-1: false, 0: false, 1: true, 2: true, 1023: true, 1024: true, 1025: false, -1024: false}
	for _, n := range ends {
		rooms[n] = false
	}
	for room, ok := range rooms {
		for _, at := range []int{0, 1, 63} {
			s := bare("")
			s.Rooms = slices.Repeat([]int{5}, 64)
			s.Rooms[at] = room
			wantSystem(t, fmt.Sprint("a room of ", room, " at ", at), s, ok)
		}
		s := bare("")
		s.Rooms = []int{room}
		wantSystem(t, fmt.Sprint("a room of ", room, " alone"), s, ok)
	}
}

func TestValidCounts(t *testing.T) { // SC1: Groups, Locks and Cells from 0 to MaxShared
	counts := map[int]bool{-1: false, 0: true, 1: true, 63: true, 64: true, 65: false, -64: false}
	for _, n := range ends {
		counts[n] = false
	}
	for n, ok := range counts {
		for what, of := range map[string]func(*api.System) *int{
			"groups": func(s *api.System) *int { return &s.Groups },
			"locks":  func(s *api.System) *int { return &s.Locks },
			"cells":  func(s *api.System) *int { return &s.Cells },
		} {
			for _, s := range []api.System{bare(""), bare("Work 5"), {Progs: bare("").Progs, Groups: 64, Locks: 64, Cells: 64}} {
				*of(&s) = n
				wantSystem(t, fmt.Sprint(n, " ", what), s, ok)
			}
		}
	}
}

func TestValidOps(t *testing.T) { // SC1: an Op of the table
	for _, op := range append([]int{0, -1, -2, -16, 17, 18, 32, 256 + 1, 1 << 32, 1<<32 + 1}, ends...) {
		for at := range 3 {
			s := shared("Work; Work; Work")
			s.Progs[0][at].Op = op
			wantSystem(t, fmt.Sprint("operation ", op, " at ", at), s, false)
		}
	}
	for op := 1; op <= 16; op++ {
		s := shared("")
		s.Progs[0] = []api.Inst{{Op: op}}
		wantSystem(t, names[op], s, true)
	}
}

// sized tells a system with as many of each shared thing as it may have or as few, whose first programs are of these lengths.
func sized(n int) api.System {
	s := api.System{Progs: make([][]api.Inst, max(n, 1)), Rooms: slices.Repeat([]int{1}, n), Groups: n, Locks: n, Cells: max(n, 1)}
	for i := range s.Progs {
		s.Progs[i] = slices.Repeat(prog("Work"), 1+(i+n)%256)
	}
	s.Progs[0] = slices.Repeat(prog("Work"), 1+n*4-n/64)
	return s
}

// edges are values of a field of that word, and whether it may have them.
func edges(s api.System, insts int, word string) map[int]bool {
	list := map[int]bool{}
	most := howMany(s, insts, word)
	for _, n := range append([]int{-2, -1, 0, 1, 2, 7, 8, 9, 63, 64, 65, 255, 256, 257, most - 2, most - 1, most, most + 1}, ends...) {
		list[n] = most < 0 || 0 <= n && n < most
	}
	return list
}

func TestValidFields(t *testing.T) { // SC1: A, B and C of each operation: the least and the greatest, one beyond, those without a word
	for _, n := range []int{0, 1, 2, 9, 64} {
		for op := 1; op <= 16; op++ {
			words := wordsOf(op)
			for field, word := range words {
				for _, at := range []int{0, n / 2, n * 4} {
					s := sized(n)
					least := fitting(s, words)
					at = min(at, len(s.Progs[0])-1)
					for value, ok := range edges(s, len(s.Progs[0]), word) {
						i := least
						i.Op = op
						*[]*int{&i.A, &i.B, &i.C}[field] = value
						s.Progs[0][at] = i
						what := fmt.Sprintf("%s with %d as its field %d (%s) at %d of %d, %d of each", names[op], value, field, word, at, len(s.Progs[0]), n)
						right := mayBe(s) // where there is none of a thing, no value of another field helps
						wantSystem(t, what, s, right)
						if ok != right && n > 0 {
							t.Errorf("%s: %v by the table", what, right)
						}
					}
				}
			}
		}
	}
}

// fitting tells an instruction whose fields are as great as they may be.
func fitting(s api.System, words []string) api.Inst {
	var list []int
	for _, word := range words {
		list = append(list, max(howMany(s, len(s.Progs[0]), word)-1, 0))
	}
	return api.Inst{A: list[0], B: list[1], C: list[2]}
}

func TestValidPlaces(t *testing.T) { // SC1: a place is one of its own program, or the one behind it
	for _, op := range []int{api.OpLess, api.OpJump, api.OpTake} {
		for place, ok := range map[int]bool{-1: false, 0: true, 1: true, 2: true, 3: true, 4: false, 6: false, 7: false} {
			for at := range 3 {
				s := shared("Work; Work; Work", "Work; Work; Work; Work; Work; Work", "Work")
				s.Progs[0][at] = api.Inst{Op: op, C: place}
				wantSystem(t, fmt.Sprint(names[op], " to ", place), s, ok)
				s = shared("Work", "Work; Work; Work")
				s.Progs[1][at] = api.Inst{Op: op, C: place}
				wantSystem(t, fmt.Sprint(names[op], " in the second to ", place), s, ok)
			}
		}
	}
}

func TestValidThingsOfTheirOwn(t *testing.T) { // SC1: channels, locks, groups, cells and programs are counted each for itself
	texts := map[string]int{"Send 4": 0, "Take 4": 0, "Close 4": 0, "Lock 4": 1, "Free 4": 1, "Add 4": 2, "Wait 4": 2, "Read": 3, "Write": 3, "Start 4": 4}
	for text, needs := range texts {
		for only := range 5 {
			s := bare(text)
			switch only {
			case 0:
				s.Rooms = slices.Repeat([]int{1}, 5)
			case 1:
				s.Locks = 5
			case 2:
				s.Groups = 5
			case 3:
				s.Cells = 5
			case 4:
				s.Progs = append(s.Progs, make([][]api.Inst, 4)...)
			}
			wantSystem(t, fmt.Sprint(text, ", only ", only), s, only == needs)
		}
	}
}

func TestValidWithoutCell(t *testing.T) { // SC1: OpRead and OpWrite need a cell at least
	for _, text := range []string{"Read", "Write", "Read 7 7", "Write 7 7", "End; Read", "Jump 0 0 2; Write"} {
		for cells, ok := range map[int]bool{0: false, 1: true, 64: true} {
			s := shared(text)
			s.Cells = cells
			wantSystem(t, fmt.Sprint(text, " with ", cells, " cells"), s, ok)
			s = shared("End", text)
			s.Cells = cells
			wantSystem(t, fmt.Sprint(text, " in the second, with ", cells, " cells"), s, ok)
		}
	}
}

func TestValidBehindAnyone(t *testing.T) { // SC1: what nobody ever starts, and what nobody comes to, must be right as well
	for _, wrong := range []api.Inst{{}, {Op: 17}, {Op: api.OpSet, A: 8}, {Op: api.OpSet, C: 1}, {Op: api.OpEnd, A: 1}, {Op: api.OpStart, A: 3}, {Op: api.OpJump, C: 9}} {
		for at := range 3 {
			s := shared("End; Work; Work", "Work; Work; Work", "Work; Work; Work")
			for p := range s.Progs {
				s.Progs[p][at] = wrong
				wantSystem(t, fmt.Sprint(wrong, " in program ", p, " at ", at), s, false)
				s.Progs[p][at] = api.Inst{Op: api.OpWork}
			}
			wantSystem(t, "put right", s, true)
		}
	}
}
