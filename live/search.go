package live

import (
	"sync/atomic"

	"quern/api"
)

// first is the least place that was found so far, which several workers lower and ask for at the same time.
type first struct {
	place atomic.Int64
}

// ahead tells whether a place lies ahead of all that were found: what lies behind one of them can't be the first.
func (f *first) ahead(at int) bool {
	return int64(at) < f.place.Load()
}

// lower takes a place that was found. It tries again only where another worker has just lowered the number, which can't go on.
func (f *first) lower(at int) {
	for {
		least := f.place.Load()
		if int64(at) >= least || f.place.CompareAndSwap(least, int64(at)) {
			return
		}
	}
}

// search tells the least place below n that is one, or -1, if there is none. Places are handed out rising: when one is found, all ahead of it are with a worker or wait for one, and nobody need hand out any more.
func search(p api.Pool, n int, isOne func(at int) bool) int {
	var found first
	found.place.Store(int64(n))
	share(p, n, found.ahead, func(at int) {
		if found.ahead(at) && isOne(at) {
			found.lower(at)
		}
	})
	if least := int(found.place.Load()); least < n {
		return least
	}
	return -1
}
