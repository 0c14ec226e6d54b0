package trace

import (
	"slices"

	"quern/api"
)

// way tells the shortest row of edges from i to j, the first by its numbers; none, if there is no row. What is reached first is reached by such a row, since the queue takes edges in the order of the rows that they end.
func (h history) way(i, j int) []int {
	if i >= j {
		return nil
	}
	o := h.onward()
	start := api.Edge{From: i, To: i}
	reached := map[int]api.Edge{i: start} // of each event the edge by which it was reached
	queue := []api.Edge{start}
	for len(queue) > 0 {
		at := queue[0].To
		queue = queue[1:]
		if at == j {
			return back(reached, start, j)
		}
		for _, to := range o.next(at) {
			if _, known := reached[to]; !known {
				reached[to] = api.Edge{From: at, To: to}
				queue = append(queue, reached[to])
			}
		}
	}
	return nil
}

// back tells the row that leads to j, going back to its start.
func back(reached map[int]api.Edge, start api.Edge, j int) []int {
	row := []int{j}
	for step := reached[j]; step != start; step = reached[step.From] {
		row = append(row, step.From)
	}
	slices.Reverse(row)
	return row
}

// onward tells where edges lead to.
type onward struct {
	events []api.Event
	links  [][]int // of each event the ends of its links, rising
	waits  [][]int // of each group the OpWaits that no OpAdd has led to yet, rising
}

func (h history) onward() *onward {
	o := &onward{events: h.events, links: make([][]int, len(h.events)), waits: make([][]int, h.system.Groups)}
	for _, k := range h.links() {
		o.links[k.From] = append(o.links[k.From], k.To)
	}
	for at, e := range h.events {
		if e.Op == api.OpWait {
			o.waits[e.A] = append(o.waits[e.A], at)
		}
	}
	return o
}

// next tells where the edges of an event lead to, rising. An OpWait that an OpAdd has led to is not told again for another one: it has been reached.
func (o *onward) next(at int) []int {
	e := o.events[at]
	if e.Op != api.OpAdd {
		return o.links[at]
	}
	waits := o.waits[e.A]
	behind, _ := slices.BinarySearch(waits, at)
	o.waits[e.A] = waits[:behind]
	list := slices.Concat(o.links[at], waits[behind:])
	slices.Sort(list)
	return list
}
