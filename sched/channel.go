package sched

import "quern/api"

// channel is a queue of as many values as its room.
type channel struct {
	room   int
	values []int
	closed bool
}

// takesOne tells whether a runner need not wait with a value for it: into a closed one it gives up.
func (c *channel) takesOne() bool {
	return c.closed || len(c.values) < c.room
}

// givesOne tells whether a runner need not wait for a value, or for the word that there is none any more.
func (c *channel) givesOne() bool {
	return c.closed || len(c.values) > 0
}

func (c *channel) put(v int) {
	if c.closed {
		panic(fault{api.ErrSent})
	}
	c.values = append(c.values, v)
}

// take tells the first value, and whether there is one.
func (c *channel) take() (int, bool) {
	if len(c.values) == 0 {
		return 0, false
	}
	v := c.values[0]
	c.values = c.values[1:]
	return v, true
}

func (c *channel) shut() {
	if c.closed {
		panic(fault{api.ErrClosed})
	}
	c.closed = true
}
