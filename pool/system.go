package pool

import "quern/api"

// What the programs share, and what they do, by the numbers that instructions tell.
const (
	jobChannel    = 0 // buffers in which a leaf lies
	resultChannel = 1 // leaves that were hashed
	freeChannel   = 2 // buffers that may be filled

	workerGroup = 0 // workers that have not ended

	workerProgram = 1
	feederProgram = 2
	closerProgram = 3

	hashWork = 0 // of a worker
	foldWork = 1 // of the combiner
)

// Registers: a count, up to where it goes, and by how much; what was taken; which leaf lies in the buffer that was.
const (
	countRegister = 0
	endRegister   = 1
	stepRegister  = 2
	takenRegister = 3
	leafRegister  = 4
)

// system tells that of a pool and of a number of jobs that may be.
func system(jobs int, p api.Pool) api.System {
	b := buffers(p)
	return api.System{
		Progs:  [][]api.Inst{combiner(p.Workers), worker(), feeder(b, jobs), closer()},
		Rooms:  []int{p.Queue, p.Queue, b},
		Groups: 1,
		Cells:  b,
	}
}

// combiner tells the program that starts all others and takes what was hashed. A worker is counted ahead of its start: else the group might be 0 while some are yet to come.
func combiner(workers int) []api.Inst {
	return []api.Inst{
		{Op: api.OpSet, A: countRegister, B: 0},
		{Op: api.OpSet, A: endRegister, B: workers},
		{Op: api.OpSet, A: stepRegister, B: 1},
		{Op: api.OpLess, A: countRegister, B: endRegister, C: 5}, // place 3
		{Op: api.OpJump, C: 9},
		{Op: api.OpAdd, A: workerGroup, B: 1}, // place 5
		{Op: api.OpStart, A: workerProgram},
		{Op: api.OpSum, A: countRegister, B: stepRegister},
		{Op: api.OpJump, C: 3},
		{Op: api.OpStart, A: feederProgram}, // place 9
		{Op: api.OpStart, A: closerProgram},
		{Op: api.OpTake, A: resultChannel, B: takenRegister, C: 14}, // place 11
		{Op: api.OpWork, A: foldWork, B: takenRegister},
		{Op: api.OpJump, C: 11},
		{Op: api.OpEnd}, // place 14
	}
}

// worker tells the program that hashes. It reads the buffer ahead of giving it back: behind that the feeder may write there.
func worker() []api.Inst {
	return []api.Inst{
		{Op: api.OpTake, A: jobChannel, B: takenRegister, C: 6}, // place 0
		{Op: api.OpRead, A: takenRegister, B: leafRegister},
		{Op: api.OpWork, A: hashWork, B: leafRegister},
		{Op: api.OpSend, A: freeChannel, B: takenRegister},
		{Op: api.OpSend, A: resultChannel, B: leafRegister},
		{Op: api.OpJump, C: 0},
		{Op: api.OpAdd, A: workerGroup, B: -1}, // place 6
		{Op: api.OpEnd},
	}
}

// feeder tells the program that lays out all buffers as free ones, and then fills one with each leaf.
func feeder(buffers, jobs int) []api.Inst {
	return []api.Inst{
		{Op: api.OpSet, A: countRegister, B: 0},
		{Op: api.OpSet, A: endRegister, B: buffers},
		{Op: api.OpSet, A: stepRegister, B: 1},
		{Op: api.OpLess, A: countRegister, B: endRegister, C: 5}, // place 3
		{Op: api.OpJump, C: 8},
		{Op: api.OpSend, A: freeChannel, B: countRegister}, // place 5
		{Op: api.OpSum, A: countRegister, B: stepRegister},
		{Op: api.OpJump, C: 3},
		{Op: api.OpSet, A: countRegister, B: 0}, // place 8
		{Op: api.OpSet, A: endRegister, B: jobs},
		{Op: api.OpLess, A: countRegister, B: endRegister, C: 12}, // place 10
		{Op: api.OpJump, C: 17},
		{Op: api.OpTake, A: freeChannel, B: takenRegister, C: 17}, // place 12
		{Op: api.OpWrite, A: takenRegister, B: countRegister},
		{Op: api.OpSend, A: jobChannel, B: takenRegister},
		{Op: api.OpSum, A: countRegister, B: stepRegister},
		{Op: api.OpJump, C: 10},
		{Op: api.OpClose, A: jobChannel}, // place 17
		{Op: api.OpEnd},
	}
}

// closer tells the program that closes the results when no worker is left to send one.
func closer() []api.Inst {
	return []api.Inst{
		{Op: api.OpWait, A: workerGroup},
		{Op: api.OpClose, A: resultChannel},
		{Op: api.OpEnd},
	}
}

// tell tells what a run of a pool's system shows by itself: all but the digest.
func tell(run api.Run) api.PoolRun {
	r := api.PoolRun{End: run.End, Steps: len(run.Events)}
	jobs := 0
	for _, e := range run.Events {
		switch {
		case e.Op == api.OpWork && e.A == foldWork:
			r.Order = append(r.Order, e.Value)
		case e.Op == api.OpSend && e.A == jobChannel:
			jobs++
		case e.Op == api.OpTake && e.A == jobChannel && !e.Shut:
			jobs--
		}
		r.Most = max(r.Most, jobs)
	}
	return r
}
