package trace

import "quern/api"

// notes are what the rules of a trace ask of the events so far.
type notes struct {
	system  api.System
	runners int
	inside  []int  // of each channel, how many values more went in than came out
	closed  []bool // of each channel
	held    holders
}

func begin(s api.System) notes {
	return notes{system: s, runners: 1, inside: make([]int, len(s.Rooms)), closed: make([]bool, len(s.Rooms)), held: holders{}}
}

// fits tells whether an event may come next.
func (n *notes) fits(e api.Event) bool {
	// Runners are numbered in the order of their starts, so those below their number are the ones that were started.
	if e.Who < 0 || e.Who >= n.runners || e.Op < api.OpSet || e.Op > api.OpEnd {
		return false
	}
	if many, counted := things(n.system, e.Op); counted && (e.A < 0 || e.A >= many) {
		return false
	}
	switch e.Op {
	case api.OpStart:
		return e.Value == 0 || e.Value == n.runners && n.runners < api.MaxRunner
	case api.OpTake:
		if e.Shut {
			return n.closed[e.A]
		}
		return n.inside[e.A] > 0
	case api.OpLock:
		return !n.held.any(e.A)
	}
	return true
}

// things tells how many there are of what A of an operation is one of, and whether it is one of anything.
func things(s api.System, op int) (int, bool) {
	switch op {
	case api.OpSend, api.OpTake, api.OpClose:
		return len(s.Rooms), true
	case api.OpLock, api.OpFree:
		return s.Locks, true
	case api.OpAdd, api.OpWait:
		return s.Groups, true
	case api.OpRead, api.OpWrite:
		return s.Cells, true
	case api.OpStart:
		return len(s.Progs), true
	}
	return 0, false
}

// take notes an event that fits.
func (n *notes) take(e api.Event) {
	n.held.take(e)
	switch {
	case e.Op == api.OpSend:
		n.inside[e.A]++
	case e.Op == api.OpTake && !e.Shut:
		n.inside[e.A]--
	case e.Op == api.OpClose:
		n.closed[e.A] = true
	case e.Op == api.OpStart && e.Value > 0:
		n.runners++
	}
}
