package live

import (
	"quern/api"
	"quern/node"
	"quern/param"
	"quern/shape"
	"quern/tree"
)

// task is what a worker does for a job.
type task struct {
	fails int // how often it panics ahead of its work
	work  func() ([]byte, api.Errno)
}

// jobTask tells the task of a job. Parameters that can't be are told when it is first begun, ahead of any failure.
func jobTask(j api.Job) task {
	p, e := param.Plain(j.Kind, j.Out, len(j.Key))
	if e != api.OK {
		return task{work: func() ([]byte, api.Errno) { return nil, e }}
	}
	return task{
		fails: j.Fails,
		work: func() ([]byte, api.Errno) {
			return node.Hash(j.Kind, p, j.Key, false, j.Out, j.Data)
		},
	}
}

// leafTask tells the task of a message's leaf, whose failures stand at its place of fails, if that reaches so far.
func leafTask(t api.Tree, fails []int, data []byte, at int) task {
	leaf := task{work: func() ([]byte, api.Errno) { return leafOutput(t, data, uint64(at)) }}
	if at < len(fails) {
		leaf.fails = fails[at]
	}
	return leaf
}

// leafOutput tells what a leaf gives; it is one that the message has in a tree that may be.
func leafOutput(t api.Tree, data []byte, at uint64) ([]byte, api.Errno) {
	total := uint64(len(data))
	s, _ := shape.Spot(t, total, 0, at)
	p, _ := shape.Params(t, total, 0, at)
	return node.Hash(t.Kind, p, t.Key, s.Last, t.Inner, data[s.From:s.To])
}

// messageTask tells the task of a whole message.
func messageTask(t api.Tree, data []byte) task {
	return task{work: func() ([]byte, api.Errno) { return tree.Hash(t, data) }}
}

// answer begins a task until it does not panic, but no more often than tries says.
func (t task) answer(tries int) api.Done {
	var d api.Done
	for {
		d.Tries++
		d.Digest, d.Why = t.begin(d.Tries)
		if d.Why != api.ErrBroken || d.Tries == tries {
			return d
		}
	}
}

// begin does a task that is begun for the time-th time. Whatever panics within it ends here, so that the worker and all other tasks go on.
func (t task) begin(time int) (digest []byte, why api.Errno) {
	defer func() {
		if recover() != nil {
			digest, why = nil, api.ErrBroken
		}
	}()
	if time <= t.fails {
		panic("a job that was told to fail")
	}
	return t.work()
}
