package trace

import (
	"cmp"
	"slices"

	"quern/api"
)

// races tells the first pairs that race, at most so many. Runners are taken band by band, so that no more numbers of clocks are kept than Clocks tells.
func (h history) races(most int) []api.Race {
	var list []api.Race
	links := h.links()
	many := api.MaxClock / max(1, len(h.events))
	for first := 0; first < h.runners; first += many {
		list = append(list, h.racesWith(links, band{first, min(many, h.runners-first)}, most)...)
	}
	slices.SortFunc(list, func(a, b api.Race) int {
		return cmp.Or(cmp.Compare(a.Second, b.Second), cmp.Compare(a.First, b.First))
	})
	return list[:min(most, len(list))]
}

// racesWith tells the first pairs whose first access is made by one of a band, in order.
func (h history) racesWith(links []api.Edge, b band, most int) []api.Race {
	var list []api.Race
	clocks := h.clocks(links, b)
	all, writes := newAccesses(h, b), newAccesses(h, b)
	for at, e := range h.events {
		if len(list) >= most {
			break
		}
		switch e.Op {
		case api.OpRead:
			list = append(list, writes.unseen(clocks, at, e.A)...)
			all.add(at, e)
		case api.OpWrite:
			list = append(list, all.unseen(clocks, at, e.A)...)
			all.add(at, e)
			writes.add(at, e)
		}
	}
	return list[:min(most, len(list))]
}

// accesses are those that the runners of a band have made so far.
type accesses struct {
	by    band
	cells [][][]int // of each cell, of each runner of the band
}

func newAccesses(h history, b band) accesses {
	a := accesses{by: b, cells: make([][][]int, h.system.Cells)}
	for cell := range a.cells {
		a.cells[cell] = make([][]int, b.many)
	}
	return a
}

// add notes an access, if it is one of the band's.
func (a accesses) add(at int, e api.Event) {
	if place, ok := a.by.place(e.Who); ok {
		a.cells[e.A][place] = append(a.cells[e.A][place], at)
	}
}

// unseen tells the pairs of event at with those accesses of a cell that are not before it. Of each runner these are its last ones, and none of the runner of at itself.
func (a accesses) unseen(clocks [][]int, at, cell int) []api.Race {
	var list []int
	for place, own := range a.cells[cell] {
		from := len(own)
		for from > 0 && !seen(clocks[own[from-1]][place], clocks[at][place]) {
			from--
		}
		list = append(list, own[from:]...)
	}
	slices.Sort(list)
	pairs := make([]api.Race, 0, len(list))
	for _, first := range list {
		pairs = append(pairs, api.Race{First: first, Second: at})
	}
	return pairs
}
