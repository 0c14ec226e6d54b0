package trace

import (
	"cmp"
	"slices"

	"quern/api"
)

// edges tells all edges in order, each once; where there are more than may be told, too many, though not all.
func (h history) edges() []api.Edge {
	return inOrder(append(h.links(), h.joins(api.MaxEdges+1)...))
}

// inOrder sorts edges by rising To, of one To by rising From, and leaves out those that are there already.
func inOrder(list []api.Edge) []api.Edge {
	slices.SortFunc(list, func(a, b api.Edge) int {
		return cmp.Or(cmp.Compare(a.To, b.To), cmp.Compare(a.From, b.From))
	})
	return slices.Compact(list)
}

// joins tells the edges of groups (kind 7), at most so many: all of them can be hundreds of millions. No two are the same.
func (h history) joins(most int) []api.Edge {
	var list []api.Edge
	adds := make([][]int, h.system.Groups)
	for at, e := range h.events {
		switch e.Op {
		case api.OpAdd:
			adds[e.A] = append(adds[e.A], at)
		case api.OpWait:
			room := min(most-len(list), len(adds[e.A]))
			for _, from := range adds[e.A][:room] {
				list = append(list, api.Edge{From: from, To: at})
			}
		}
	}
	return list
}

// links tells the edges but those of groups, in order, each once: of these there are but a few for each event.
func (h history) links() []api.Edge {
	k := newLinker(h)
	for at, e := range h.events {
		k.link(k.last[e.Who], at)
		k.last[e.Who] = at
		k.take(at, e)
	}
	return inOrder(k.list)
}

// linker finds edges event by event.
type linker struct {
	list  []api.Edge
	rooms []int
	last  []int   // of each runner its last event; ahead of its first one that which started it
	sends [][]int // of each channel
	takes [][]int // of each channel, those without Shut
	shut  []int   // of each channel the first OpClose
	frees [][]int // of each lock, those behind the last OpLock of it
}

// none is the number of an event that is not there.
const none = -1

func newLinker(h history) *linker {
	channels := len(h.system.Rooms)
	return &linker{
		rooms: h.system.Rooms,
		last:  slices.Repeat([]int{none}, h.runners),
		sends: make([][]int, channels),
		takes: make([][]int, channels),
		shut:  slices.Repeat([]int{none}, channels),
		frees: make([][]int, h.system.Locks),
	}
}

// link notes an edge, if there is an event that it comes from.
func (k *linker) link(from, to int) {
	if from != none {
		k.list = append(k.list, api.Edge{From: from, To: to})
	}
}

// take finds the edges to an event by what it does, and notes it for those behind it.
func (k *linker) take(at int, e api.Event) {
	switch e.Op {
	case api.OpStart:
		if e.Value > 0 {
			k.last[e.Value] = at
		}
	case api.OpSend:
		k.send(at, e.A)
	case api.OpTake:
		k.receive(at, e)
	case api.OpClose:
		if k.shut[e.A] == none {
			k.shut[e.A] = at
		}
	case api.OpFree:
		k.frees[e.A] = append(k.frees[e.A], at)
	case api.OpLock:
		for _, from := range k.frees[e.A] {
			k.link(from, at)
		}
		k.frees[e.A] = nil
	}
}

// send finds the take that made room for a value; there may be none ahead, since a list may send more than a channel holds.
func (k *linker) send(at, channel int) {
	number := len(k.sends[channel]) - k.rooms[channel]
	if number >= 0 && number < len(k.takes[channel]) {
		k.link(k.takes[channel][number], at)
	}
	k.sends[channel] = append(k.sends[channel], at)
}

// receive finds where a value came from, or why there is none.
func (k *linker) receive(at int, e api.Event) {
	if e.Shut {
		k.link(k.shut[e.A], at)
		return
	}
	k.link(k.sends[e.A][len(k.takes[e.A])], at)
	k.takes[e.A] = append(k.takes[e.A], at)
}
