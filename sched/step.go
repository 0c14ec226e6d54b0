package sched

import "quern/api"

// can tells whether an instruction can be done now; one that is an error can.
func (m *machine) can(i api.Inst) bool {
	switch i.Op {
	case api.OpSend:
		return m.channels[i.A].takesOne()
	case api.OpTake:
		return m.channels[i.A].givesOne()
	case api.OpLock:
		return !m.held[i.A]
	case api.OpWait:
		return m.groups[i.A] == 0
	}
	return true
}

// step takes the next step of a runner. The event is told ahead of all else, so that it stands there if the step gives up.
func (m *machine) step(who int) {
	r := m.runners[who]
	i := r.insts[r.at]
	m.events = append(m.events, api.Event{Who: who, Op: i.Op})
	r.at = m.do(r, i, &m.events[len(m.events)-1])
}

// do does what an instruction says and fills in its event; it tells where the runner goes on. What is an error gives up ahead of any change.
func (m *machine) do(r *runner, i api.Inst, e *api.Event) int {
	switch i.Op {
	case api.OpSet:
		r.registers[i.A] = i.B
	case api.OpSum:
		r.registers[i.A] += r.registers[i.B]
	case api.OpLess:
		if r.registers[i.A] >= r.registers[i.B] {
			break
		}
		fallthrough
	case api.OpJump:
		return i.C
	case api.OpEnd:
		return len(r.insts)
	case api.OpRead, api.OpWrite:
		m.access(r, i, e)
	default:
		return m.share(r, i, e)
	}
	return r.at + 1
}

// access does an instruction that reads or writes a cell.
func (m *machine) access(r *runner, i api.Inst, e *api.Event) {
	e.A = rest(r.registers[i.A], len(m.cells))
	if i.Op == api.OpWrite {
		m.cells[e.A] = r.registers[i.B]
	} else {
		r.registers[i.B] = m.cells[e.A]
	}
	e.Value = r.registers[i.B]
}

// share does an instruction whose A is the number of something that is told; it tells where the runner goes on.
func (m *machine) share(r *runner, i api.Inst, e *api.Event) int {
	next := r.at + 1
	e.A = i.A
	switch i.Op {
	case api.OpSend:
		e.Value = r.registers[i.B]
		m.channels[i.A].put(e.Value)
	case api.OpTake:
		if v, ok := m.channels[i.A].take(); ok {
			r.registers[i.B] = v
		} else {
			next, e.Shut = i.C, true
		}
		fallthrough
	case api.OpWork:
		e.Value = r.registers[i.B]
	case api.OpClose:
		m.channels[i.A].shut()
	case api.OpLock:
		m.held[i.A] = true
	case api.OpFree:
		m.free(i.A)
	case api.OpAdd:
		e.Value = m.groups[i.A] + i.B
		m.grow(i.A, e.Value)
	case api.OpStart:
		e.Value = m.start(i.A, r)
	}
	return next
}

func (m *machine) free(lock int) {
	if !m.held[lock] {
		panic(fault{api.ErrFree})
	}
	m.held[lock] = false
}

func (m *machine) grow(group, to int) {
	if to < 0 {
		panic(fault{api.ErrGroup})
	}
	m.groups[group] = to
}

// start makes a runner of a program, with the registers of the one that starts it, and tells its number.
func (m *machine) start(prog int, by *runner) int {
	who := len(m.runners)
	if who == api.MaxRunner {
		panic(fault{api.ErrCrowd})
	}
	m.runners = append(m.runners, &runner{insts: m.progs[prog], registers: by.registers})
	return who
}
