package sched

import (
	"math/big"
	"slices"
	"strings"
	"testing"

	"quern/api"
)

// table is the chapter's, row by row: the operation, and what A, B and C are.
const table = `
Set   register number   -
Sum   register register -
Less  register register place
Jump  -        -        place
Send  channel  register -
Take  channel  register place
Close channel  -        -
Lock  lock     -        -
Free  lock     -        -
Add   group    number   -
Wait  group    -        -
Read  register register -
Write register register -
Start program  -        -
Work  number   register -
End   -        -        -
`

// words are what A, B and C are, by the operations' numbers.
var words = func() [][]string {
	list := [][]string{nil}
	for _, line := range strings.Split(strings.TrimSpace(table), "\n") {
		f := strings.Fields(line)
		if f[0] != names[len(list)] {
			panic("the table's order is not that of the numbers: " + line)
		}
		list = append(list, f[1:])
	}
	return list
}()

// wordsOf tells what A, B and C of an operation are; none, if there is no such operation.
func wordsOf(op int) []string {
	if op < 1 || op >= len(words) {
		return nil
	}
	return words[op]
}

// howMany tells how many values, from 0 on, a field of that word may have; -1: any number.
func howMany(s api.System, insts int, word string) int {
	switch word {
	case "-":
		return 1
	case "register":
		return 8
	case "place":
		return insts + 1
	case "channel":
		return len(s.Rooms)
	case "lock":
		return s.Locks
	case "group":
		return s.Groups
	case "program":
		return len(s.Progs)
	}
	return -1
}

// mayBe tells whether a system of sizes that may be has instructions that may be.
func mayBe(s api.System) bool {
	for _, p := range s.Progs {
		for _, i := range p {
			words := wordsOf(i.Op)
			if words == nil || (i.Op == api.OpRead || i.Op == api.OpWrite) && s.Cells == 0 {
				return false
			}
			for at, n := range []int{i.A, i.B, i.C} {
				if most := howMany(s, len(p), words[at]); most >= 0 && (n < 0 || n >= most) {
					return false
				}
			}
		}
	}
	return true
}

// model is a system's run by the chapter's words, kept as lists of all that ever happened: what a channel holds, who holds a lock, what a group is are asked of the events.
type model struct {
	s       api.System
	runners []modelRunner
	run     api.Run
}

type modelRunner struct {
	prog, at  int
	registers [8]int
	ended     bool
}

func newModel(s api.System) *model {
	m := &model{s: s}
	m.run.Cells = make([]int, s.Cells)
	m.add(modelRunner{})
	return m
}

func (m *model) add(r modelRunner) {
	r.ended = len(m.s.Progs[r.prog]) == 0
	m.runners = append(m.runners, r)
	m.run.Runners++
}

// count tells how many events of that operation on number a there were, those of a closed and empty channel left out.
func (m *model) count(op, a int) int {
	n := 0
	for _, e := range m.run.Events {
		if e.Op == op && e.A == a && !e.Shut {
			n++
		}
	}
	return n
}

// holds are the values of a channel: what was sent, without the first ones, of which so many were taken.
func (m *model) holds(channel int) []int {
	var sent []int
	for _, e := range m.run.Events {
		if e.Op == api.OpSend && e.A == channel {
			sent = append(sent, e.Value)
		}
	}
	return sent[m.count(api.OpTake, channel):]
}

func (m *model) closed(channel int) bool { return m.count(api.OpClose, channel) > 0 }

func (m *model) held(lock int) bool { return m.count(api.OpLock, lock) > m.count(api.OpFree, lock) }

// group is what the last OpAdd of it told.
func (m *model) group(group int) int {
	for _, e := range slices.Backward(m.run.Events) {
		if e.Op == api.OpAdd && e.A == group {
			return e.Value
		}
	}
	return 0
}

func (m *model) ready() []int {
	var list []int
	for who, r := range m.runners {
		if r.ended {
			continue
		}
		i, ok := m.s.Progs[r.prog][r.at], true
		switch names[i.Op] {
		case "Send":
			ok = m.closed(i.A) || len(m.holds(i.A)) < m.s.Rooms[i.A]
		case "Take":
			ok = m.closed(i.A) || len(m.holds(i.A)) > 0
		case "Lock":
			ok = !m.held(i.A)
		case "Wait":
			ok = m.group(i.A) == 0
		}
		if ok {
			list = append(list, who)
		}
	}
	return list
}

// around tells the rest, 0 or more, by numbers without a bound.
func around(n, by int) int {
	return int(new(big.Int).Mod(big.NewInt(int64(n)), big.NewInt(int64(by))).Int64())
}

// round does one round of SC2, and tells whether the run goes on.
func (m *model) round(pick int) bool {
	ready := m.ready()
	all := !slices.ContainsFunc(m.runners, func(r modelRunner) bool { return !r.ended })
	switch {
	case all:
		m.run.End = api.EndDone
	case len(m.run.Events) == 40000:
		m.run.End = api.EndSteps
	case len(ready) == 0:
		m.run.End = api.EndStuck
	default:
		m.step(ready[around(pick, len(ready))])
	}
	return m.run.End == 0
}

func (m *model) step(who int) {
	before := m.runners[who]
	i := m.s.Progs[before.prog][before.at]
	r := before
	r.at++
	e := api.Event{Who: who, Op: i.Op, A: i.A}
	x := &r.registers
	var fault api.Errno
	switch names[i.Op] {
	case "Set":
		e.A, x[i.A] = 0, i.B
	case "Sum":
		e.A, x[i.A] = 0, x[i.A]+x[i.B]
	case "Less":
		if e.A = 0; x[i.A] < x[i.B] {
			r.at = i.C
		}
	case "Jump":
		r.at = i.C
	case "Send":
		if e.Value = x[i.B]; m.closed(i.A) {
			fault = 131
		}
	case "Take":
		if list := m.holds(i.A); len(list) > 0 {
			x[i.B] = list[0]
		} else {
			r.at, e.Shut = i.C, true
		}
		e.Value = x[i.B]
	case "Close":
		if m.closed(i.A) {
			fault = 132
		}
	case "Free":
		if !m.held(i.A) {
			fault = 133
		}
	case "Add":
		if e.Value = m.group(i.A) + i.B; e.Value < 0 {
			fault = 134
		}
	case "Read":
		e.A = around(x[i.A], m.s.Cells)
		e.Value = m.run.Cells[e.A]
		x[i.B] = e.Value
	case "Write":
		e.A = around(x[i.A], m.s.Cells)
		e.Value = x[i.B]
		m.run.Cells[e.A] = e.Value
	case "Start":
		if e.Value = len(m.runners); e.Value == 512 {
			e.Value, fault = 0, 135
		}
	case "Work":
		e.Value = x[i.B]
	}
	m.run.Events = append(m.run.Events, e)
	if fault != api.OK {
		m.run.End, m.run.Fault = api.EndFault, fault
		return
	}
	r.ended = i.Op == api.OpEnd || r.at == len(m.s.Progs[r.prog])
	m.runners[who] = r
	if i.Op == api.OpStart {
		m.add(modelRunner{prog: i.A, registers: before.registers})
	}
}

// modelPlay is Play by the words.
func modelPlay(s api.System, picks []int) api.Run {
	m := newModel(s)
	for at := 0; ; at++ {
		pick := 0
		if at < len(picks) {
			pick = picks[at]
		}
		if !m.round(pick) {
			return m.run
		}
	}
}

// modelReady is Ready by the words.
func modelReady(s api.System, picks []int) []int {
	m := newModel(s)
	for _, pick := range picks {
		if !m.round(pick) {
			return nil
		}
	}
	return m.ready()
}

// byChance tells a system that may be, of a few short programs.
func byChance(c *chance) api.System {
	s := api.System{Groups: c.below(3), Locks: c.below(3), Cells: c.below(4)}
	for range c.below(4) {
		s.Rooms = append(s.Rooms, 1+c.below(3))
	}
	s.Progs = make([][]api.Inst, 1+c.below(4))
	for at := range s.Progs {
		size := c.below(10)
		if at == 0 {
			size += 2
		}
		for len(s.Progs[at]) < size {
			if i, ok := instByChance(c, s, size, len(s.Progs[at])); ok {
				s.Progs[at] = append(s.Progs[at], i)
			}
		}
	}
	return s
}

// instByChance tells an instruction for the place at of a program of so many. Most ways lead forward, so that most runs end.
func instByChance(c *chance, s api.System, size, at int) (api.Inst, bool) {
	i := api.Inst{Op: 1 + c.below(16)}
	if i.Op == api.OpEnd && c.below(4) > 0 {
		return i, false
	}
	words := wordsOf(i.Op)
	for j, field := range []*int{&i.A, &i.B, &i.C} {
		switch most := howMany(s, size, words[j]); {
		case most == 0:
			return i, false
		case most < 0:
			*field = c.below(7) - 2
		case words[j] == "register":
			*field = c.below(4)
		case words[j] == "place" && c.below(12) > 0:
			*field = at + 1 + c.below(size-at)
		default:
			*field = c.below(most)
		}
	}
	return i, (i.Op != api.OpRead && i.Op != api.OpWrite) || s.Cells > 0
}

func TestAgainstModel(t *testing.T) { // SC1 to SC4: systems by chance, by picks by chance, held against the words
	c := chance(13)
	ends, steps, ops := map[[2]int]int{}, 0, map[int]int{}
	for range 6000 {
		s := byChance(&c)
		if e := Valid(s); e != api.OK || !mayBe(s) {
			t.Fatalf("error %d of %v", e, s)
		}
		picks := c.picks(c.below(60))
		got := played(t, "by chance", s, picks...)
		ends[[2]int{got.End, int(got.Fault)}]++
		if len(got.Events) > 400 {
			continue // the model is slow: long runs are held against it by their beginnings
		}
		wantSame(t, "by chance", got, modelPlay(s, picks))
		steps += len(got.Events)
		for _, e := range got.Events {
			ops[e.Op]++
		}
	}
	for _, end := range [][2]int{{1, 0}, {2, 0}, {3, 131}, {3, 132}, {3, 133}, {3, 134}, {4, 0}} {
		if ends[end] < 10 {
			t.Errorf("%d runs end with %v", ends[end], end)
		}
	}
	for op := 1; op <= 16; op++ {
		if ops[op] < 100 {
			t.Errorf("%d steps of %s", ops[op], names[op])
		}
	}
	if steps < 20000 {
		t.Errorf("%d steps", steps)
	}
}

func TestReadyAgainstModel(t *testing.T) { // SC4: and of runs without an end their beginnings
	c := chance(17)
	some := 0
	for range 4000 {
		s := byChance(&c)
		picks := c.picks(c.below(40))
		right := modelReady(s, picks)
		wantReady(t, "by chance", s, picks, right...)
		if len(right) > 1 {
			some++
		}
		m := newModel(s)
		for _, pick := range picks {
			if !m.round(pick) {
				break
			}
		}
		got := played(t, "by chance", s, picks...).Events
		if !slices.Equal(got[:len(m.run.Events)], m.run.Events) {
			t.Errorf("%v begins otherwise than %v", got[:len(m.run.Events)], m.run.Events)
		}
	}
	if some < 100 {
		t.Errorf("%d with several that are ready", some)
	}
}

func TestValidAgainstModel(t *testing.T) { // SC1: a field changed in a system by chance
	c := chance(19)
	wrong := 0
	for range 6000 {
		s := byChance(&c)
		p := s.Progs[c.below(len(s.Progs))]
		if len(p) == 0 {
			continue
		}
		i := &p[c.below(len(p))]
		field := []*int{&i.Op, &i.A, &i.B, &i.C}[c.below(4)]
		*field += []int{-1, 1, 2, 7, -7, 8, -1 << 63, 1<<63 - 1}[c.below(8)]
		right := mayBe(s)
		if !right {
			wrong++
		}
		if got := Valid(s); (got == api.OK) != right || got != api.OK && got != api.ErrSystem {
			t.Errorf("error %d of %v", got, s)
		}
	}
	if wrong < 1000 {
		t.Errorf("%d wrong ones", wrong)
	}
}
