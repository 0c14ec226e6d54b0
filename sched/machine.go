package sched

import "quern/api"

// machine is a system that runs: its runners, what they share, and what they did.
type machine struct {
	progs    [][]api.Inst
	runners  []*runner
	channels []channel
	groups   []int
	held     []bool // of each lock, whether somebody holds it
	cells    []int
	events   []api.Event
	list     []int // what ready told last, kept for its room
}

// runner is one that runs a program. At the place behind the last instruction it has ended.
type runner struct {
	insts     []api.Inst
	at        int
	registers [api.Registers]int
}

func (r *runner) ended() bool {
	return r.at == len(r.insts)
}

// begin makes the machine of a system that may be, ahead of its first step.
func begin(s api.System) *machine {
	m := &machine{
		progs:  s.Progs,
		groups: make([]int, s.Groups),
		held:   make([]bool, s.Locks),
		cells:  make([]int, s.Cells),
	}
	for _, room := range s.Rooms {
		m.channels = append(m.channels, channel{room: room})
	}
	m.runners = []*runner{{insts: s.Progs[0]}}
	return m
}

// goesOn is the end of a run that has none yet.
const goesOn = 0

// fault is what a step that can't be done gives up with.
type fault struct {
	why api.Errno
}

// run takes at most so many rounds, and tells how the run has ended in them; where a step was an error, which.
func (m *machine) run(picks []int, rounds int) (end int, why api.Errno) {
	defer func() {
		if gaveUp := recover(); gaveUp != nil {
			end, why = api.EndFault, gaveUp.(fault).why
		}
	}()
	for round := range rounds {
		ready := m.ready()
		if end = m.endsBy(ready); end != goesOn {
			return end, api.OK
		}
		pick := 0
		if round < len(picks) {
			pick = picks[round]
		}
		m.step(ready[rest(pick, len(ready))])
	}
	return goesOn, api.OK
}

// rest tells what is left of n when divided by a number above 0: 0 or more.
func rest(n, by int) int {
	return (n%by + by) % by
}

// ready tells the numbers of the runners that can go on, rising. The next call writes over them.
func (m *machine) ready() []int {
	m.list = m.list[:0]
	for who, r := range m.runners {
		if !r.ended() && m.can(r.insts[r.at]) {
			m.list = append(m.list, who)
		}
	}
	return m.list
}

// endsBy tells how the run ends where these are ready.
func (m *machine) endsBy(ready []int) int {
	switch {
	case len(ready) == 0 && m.allEnded():
		return api.EndDone
	case len(m.events) == api.MaxSteps:
		return api.EndSteps
	case len(ready) == 0:
		return api.EndStuck
	}
	return goesOn
}

func (m *machine) allEnded() bool {
	for _, r := range m.runners {
		if !r.ended() {
			return false
		}
	}
	return true
}
