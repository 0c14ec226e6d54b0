package trace

import (
	"slices"

	"quern/api"
)

// holders tell of each lock that is held who holds it.
type holders map[int]int

// take notes what an event does to a lock, if it does anything to one. Whoever gives a lock back, nobody holds it then.
func (h holders) take(e api.Event) {
	switch e.Op {
	case api.OpLock:
		h[e.A] = e.Who
	case api.OpFree:
		delete(h, e.A)
	}
}

// any tells whether somebody holds a lock.
func (h holders) any(lock int) bool {
	_, held := h[lock]
	return held
}

// by tells whether a lock is held by who.
func (h holders) by(who, lock int) bool {
	holder, held := h[lock]
	return held && holder == who
}

// locks tells the numbers of all locks.
func (h history) locks() []int {
	list := make([]int, h.system.Locks)
	for lock := range list {
		list[lock] = lock
	}
	return list
}

// heldAt tells the locks that the runner of event i holds ahead of it.
func (h history) heldAt(i int) []int {
	held := holders{}
	for _, e := range h.events[:i] {
		held.take(e)
	}
	return slices.DeleteFunc(h.locks(), func(lock int) bool { return !held.by(h.events[i].Who, lock) })
}

// guards tells the locks that are held at each access of a cell by who makes it, and that nobody but their holder gives back.
func (h history) guards(cell int) []int {
	held, list, touched := holders{}, h.locks(), false
	for _, e := range h.events {
		switch {
		case isAccess(e) && e.A == cell:
			touched = true
			list = slices.DeleteFunc(list, func(lock int) bool { return !held.by(e.Who, lock) })
		case e.Op == api.OpFree && !held.by(e.Who, e.A):
			list = slices.DeleteFunc(list, func(lock int) bool { return lock == e.A })
		}
		held.take(e)
	}
	if !touched {
		return nil
	}
	return list
}
