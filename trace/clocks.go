package trace

import "quern/api"

// band is so many runners, from first on.
type band struct {
	first, many int
}

// place tells where a runner stands in a band, and whether it is of it.
func (b band) place(who int) (int, bool) {
	place := who - b.first
	return place, place >= 0 && place < b.many
}

// clocks tells of each event the part of its clock that belongs to a band, by the links of all events. Each number of a clock comes out by itself, so who asks of one runner need not pay for all.
func (h history) clocks(links []api.Edge, b band) [][]int {
	list := make([][]int, 0, len(h.events))
	added := make([][]int, h.system.Groups) // of each group the clocks of its OpAdds, joined: an OpWait asks for all of them
	for at, e := range h.events {
		var ahead [][]int
		for len(links) > 0 && links[0].To == at {
			ahead = append(ahead, list[links[0].From])
			links = links[1:]
		}
		if e.Op == api.OpWait {
			ahead = append(ahead, added[e.A])
		}
		clock := joined(b.many, ahead...)
		if place, ok := b.place(e.Who); ok {
			clock[place]++
		}
		if e.Op == api.OpAdd {
			added[e.A] = joined(b.many, added[e.A], clock)
		}
		list = append(list, clock)
	}
	return list
}

// joined tells a new clock of so many numbers: at each place the greatest that one of these has there.
func joined(many int, clocks ...[]int) []int {
	whole := make([]int, many)
	for _, clock := range clocks {
		for place, n := range clock {
			whole[place] = max(whole[place], n)
		}
	}
	return whole
}

// seen tells whether an event is before another one, or is that one, by what the clocks of both have at the place of its runner.
func seen(own, other int) bool {
	return own <= other
}

// before tells whether event i is before event j, for which the numbers of one runner are enough.
func (h history) before(i, j int) bool {
	clocks := h.clocks(h.links(), band{h.events[i].Who, 1})
	return i != j && seen(clocks[i][0], clocks[j][0])
}
