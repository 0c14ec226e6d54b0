package trace

import (
	"quern/api"
	"quern/sched"
)

// history is a list of events that may be a trace of its system.
type history struct {
	system  api.System
	events  []api.Event
	runners int
}

// read looks at what every call looks at ahead of all. Of a list that is no trace it tells the first wrong event.
func read(s api.System, l []api.Event) (history, int, api.Errno) {
	if e := sched.Valid(s); e != api.OK {
		return history{}, 0, e
	}
	if len(l) > api.MaxSteps {
		return history{}, 0, api.ErrLong
	}
	n := begin(s)
	for at, e := range l {
		if !n.fits(e) {
			return history{}, at, api.ErrTrace
		}
		n.take(e)
	}
	return history{system: s, events: l, runners: n.runners}, 0, api.OK
}

// has tells whether an event has this number.
func (h history) has(at int) bool {
	return at >= 0 && at < len(h.events)
}

// isAccess tells whether an event touches a cell.
func isAccess(e api.Event) bool {
	return e.Op == api.OpRead || e.Op == api.OpWrite
}
