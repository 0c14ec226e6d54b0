package slice

import (
	"iter"

	"quern/api"
	"quern/word"
)

// headBytes is how many bytes of a form tell how many the message has.
const headBytes = 8

// fault is what is given up with: where, and why.
type fault struct {
	at  int
	why api.Errno
}

// caught does the work, and tells where and why it gave up.
func caught(work func()) (at int, e api.Errno) {
	defer func() {
		if gaveUp := recover(); gaveUp != nil {
			f := gaveUp.(fault)
			at, e = f.at, f.why
		}
	}()
	work()
	return 0, api.OK
}

// scan is bytes that are read from the left. What is missing gives up.
type scan struct {
	bytes []byte
	at    int
}

// take tells the next n bytes, which stay those of the form.
func (c *scan) take(n uint64) []byte {
	rest := c.bytes[c.at:]
	if n > uint64(len(rest)) {
		panic(fault{c.at, api.ErrShort})
	}
	c.at += int(n)
	return rest[:n:n]
}

// total tells how many bytes the message has.
func (c *scan) total() uint64 {
	at := c.at
	total, _ := word.Load64(c.take(headBytes), 0)
	if total > api.MaxTotal {
		panic(fault{at, api.ErrTotal})
	}
	return total
}

// piece is what a node has in a form, and where.
type piece struct {
	spot api.Spot
	at   int
	data []byte
}

// pieces gives those of a form, and then gives up if something stands behind them.
func (c *scan) pieces(f form) iter.Seq[piece] {
	return func(yield func(piece) bool) {
		for s := range f.nodes() {
			at := c.at
			if !yield(piece{s, at, c.take(f.size(s))}) {
				return
			}
		}
		if c.at < len(c.bytes) {
			panic(fault{c.at, api.ErrMore})
		}
	}
}
