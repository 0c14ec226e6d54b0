package trace

import (
	"math"
	"slices"
	"testing"

	"quern/api"
)

// What follows is the chapter word by word, asked of the whole list each time.

// count tells how many events there are of such a kind.
func count(l []api.Event, such func(api.Event) bool) int {
	n := 0
	for _, e := range l {
		if such(e) {
			n++
		}
	}
	return n
}

// last tells the number of the last such event; -1: there is none.
func last(l []api.Event, such func(api.Event) bool) int {
	for at, e := range slices.Backward(l) {
		if such(e) {
			return at
		}
	}
	return -1
}

// of tells whether an event is of an operation on number a. A take is one without Shut.
func of(op, a int) func(api.Event) bool {
	return func(e api.Event) bool { return e.Op == op && e.A == a && !(op == api.OpTake && e.Shut) }
}

func made(e api.Event) bool { return e.Op == api.OpStart && e.Value > 0 }

func isTake(e api.Event) bool { return e.Op == api.OpTake && !e.Shut }

// modelFits tells whether an event may stand behind a list.
func modelFits(s api.System, ahead []api.Event, e api.Event) bool {
	known := e.Who == 0 || slices.ContainsFunc(ahead, func(x api.Event) bool { return x.Op == api.OpStart && x.Value == e.Who })
	if !known || e.Op < 1 || e.Op > 16 {
		return false
	}
	many := map[int]int{
		api.OpSend: len(s.Rooms), api.OpTake: len(s.Rooms), api.OpClose: len(s.Rooms), api.OpLock: s.Locks, api.OpFree: s.Locks,
		api.OpAdd: s.Groups, api.OpWait: s.Groups, api.OpRead: s.Cells, api.OpWrite: s.Cells, api.OpStart: len(s.Progs),
	}
	if n, ok := many[e.Op]; ok && (e.A < 0 || e.A >= n) {
		return false
	}
	switch e.Op {
	case api.OpStart:
		runners := 1 + count(ahead, made)
		return e.Value == 0 || e.Value == runners && runners < 512
	case api.OpTake:
		if e.Shut {
			return slices.ContainsFunc(ahead, of(api.OpClose, e.A))
		}
		return count(ahead, of(api.OpSend, e.A)) > count(ahead, of(api.OpTake, e.A))
	case api.OpLock:
		at := last(ahead, of(api.OpLock, e.A))
		return at < 0 || slices.ContainsFunc(ahead[at+1:], of(api.OpFree, e.A))
	}
	return true
}

// modelValid tells the number of the first wrong event; -1: there is none.
func modelValid(s api.System, l []api.Event) int {
	for at, e := range l {
		if !modelFits(s, l[:at], e) {
			return at
		}
	}
	return -1
}

// modelKinds tells of which kinds there are edges from i to j.
func modelKinds(s api.System, l []api.Event, i, j int) []int {
	var list []int
	a, b := l[i], l[j]
	add := func(kind int, is bool) {
		if is {
			list = append(list, kind)
		}
	}
	by := func(who int) func(api.Event) bool { return func(e api.Event) bool { return e.Who == who } }
	number := func(at int) int { return count(l[:at+1], of(l[at].Op, l[at].A)) }
	add(1, a.Who == b.Who && !slices.ContainsFunc(l[i+1:j], by(a.Who)))
	add(2, made(a) && a.Value == b.Who && !slices.ContainsFunc(l[:j], by(b.Who)))
	same := a.A == b.A
	add(3, same && a.Op == api.OpSend && isTake(b) && number(i) == number(j))
	add(4, same && isTake(a) && b.Op == api.OpSend && number(j) == number(i)+s.Rooms[a.A])
	add(5, same && a.Op == api.OpClose && number(i) == 1 && b.Op == api.OpTake && b.Shut)
	add(6, same && a.Op == api.OpFree && b.Op == api.OpLock && !slices.ContainsFunc(l[i+1:j], of(api.OpLock, a.A)))
	add(7, same && a.Op == api.OpAdd && b.Op == api.OpWait)
	return list
}

func modelEdges(s api.System, l []api.Event) []api.Edge {
	var list []api.Edge
	for j := range l {
		for i := range j {
			if len(modelKinds(s, l, i, j)) > 0 {
				list = append(list, api.Edge{From: i, To: j})
			}
		}
	}
	return list
}

// modelOrder tells for all i and j whether i is before j, by rows of edges put together till nothing comes of it any more.
func modelOrder(n int, edges []api.Edge) [][]bool {
	order := make([][]bool, n)
	for i := range order {
		order[i] = make([]bool, n)
	}
	for _, k := range edges {
		order[k.From][k.To] = true
	}
	for m := range n {
		for i := range n {
			for j := range n {
				order[i][j] = order[i][j] || order[i][m] && order[m][j]
			}
		}
	}
	return order
}

func modelClocks(s api.System, l []api.Event, order [][]bool) [][]int {
	var list [][]int
	for j, e := range l {
		clock := make([]int, 1+count(l, made))
		for i := range l {
			if order[i][j] {
				clock[l[i].Who]++
			}
		}
		clock[e.Who]++
		list = append(list, clock)
	}
	return list
}

// modelWays tells the best row from i to each event: of each event the best of those that lead to the events with an edge to it, and it; and how many rows have as few events as the best.
func modelWays(n int, edges []api.Edge, i int) (rows [][]int, ties []int) {
	rows, ties = make([][]int, n), make([]int, n)
	rows[i], ties[i] = []int{i}, 1
	for _, k := range edges {
		if rows[k.From] == nil {
			continue
		}
		row := append(slices.Clone(rows[k.From]), k.To)
		switch best := rows[k.To]; {
		case best == nil || len(row) < len(best):
			rows[k.To], ties[k.To] = row, ties[k.From]
		case len(row) == len(best):
			ties[k.To] += ties[k.From]
			if slices.Compare(row, best) < 0 {
				rows[k.To] = row
			}
		}
	}
	rows[i] = nil
	return rows, ties
}

func modelRaces(l []api.Event, order [][]bool) []api.Race {
	var list []api.Race
	touch := func(e api.Event) bool { return e.Op == api.OpRead || e.Op == api.OpWrite }
	for j, b := range l {
		for i, a := range l[:j] {
			if touch(a) && touch(b) && a.A == b.A && a.Who != b.Who && (a.Op == api.OpWrite || b.Op == api.OpWrite) && !order[i][j] && !order[j][i] {
				list = append(list, api.Race{First: i, Second: j})
			}
		}
	}
	return list
}

// modelHolds tells whether the runner of event i holds a lock ahead of it.
func modelHolds(l []api.Event, i, lock int) bool {
	at := last(l[:i], of(api.OpLock, lock))
	return at >= 0 && l[at].Who == l[i].Who && !slices.ContainsFunc(l[at+1:i], of(api.OpFree, lock))
}

func modelHeld(s api.System, l []api.Event, i int) []int {
	var list []int
	for lock := range s.Locks {
		if modelHolds(l, i, lock) {
			list = append(list, lock)
		}
	}
	return list
}

func modelGuards(s api.System, l []api.Event, cell int) []int {
	var list []int
	for lock := range s.Locks {
		touched, good := false, true
		for i, e := range l {
			if (e.Op == api.OpRead || e.Op == api.OpWrite) && e.A == cell {
				touched, good = true, good && modelHolds(l, i, lock)
			}
			if e.Op == api.OpFree && e.A == lock {
				good = good && modelHolds(l, i, lock)
			}
		}
		if touched && good {
			list = append(list, lock)
		}
	}
	return list
}

// systemByChance tells a small system whose programs say nothing: a list need not come of them.
func systemByChance(c *chance) api.System {
	s := api.System{Progs: make([][]api.Inst, 1+c.below(2)), Groups: c.below(3), Locks: c.below(4), Cells: c.below(3)}
	for range c.below(3) {
		s.Rooms = append(s.Rooms, 1+c.below(3)*c.below(2))
	}
	return s
}

// eventByChance tells an event that may or may not stand behind a list with so many runners.
func eventByChance(c *chance, runners int) api.Event {
	e := api.Event{Who: c.below(runners), Op: 1 + c.below(16), A: c.below(3), Value: c.below(9) - 2, Shut: c.below(3) == 0}
	if e.Op < api.OpSend || e.Op > api.OpStart {
		e.Op = 5 + c.below(10)
	}
	if e.Op == api.OpStart {
		e.Value = []int{0, runners, runners}[c.below(3)]
	}
	return e
}

// listByChance tells a list of at most n events that may be a trace, most of what they do between the runners.
func listByChance(c *chance, s api.System, n int) []api.Event {
	var l []api.Event
	runners := 1
	for range c.below(4) {
		l = append(l, api.Event{Op: api.OpStart, Value: runners})
		runners++
	}
	for range 3 * n {
		e := eventByChance(c, runners)
		if e.Op == api.OpStart && c.below(4) > 0 {
			continue
		}
		if len(l) < n && modelFits(s, l, e) {
			l = append(l, e)
			runners = 1 + count(l, made)
		}
	}
	return l
}

// tally counts what lists by chance had in them.
type tally struct {
	kinds                              [8]int
	twice, ties, races, guards, events int
}

// wantModel holds all calls of a list against the words.
func wantModel(t *testing.T, s api.System, l []api.Event, seen *tally) {
	t.Helper()
	if wrong := modelValid(s, l); wrong >= 0 {
		t.Fatalf("event %d is wrong: %s", wrong, show(l))
	}
	wantValid(t, show(l), s, l)
	if n := runnersOf(t, s, l); n != 1+count(l, made) {
		t.Errorf("%d runners of %s", n, show(l))
	}
	edges := modelEdges(s, l)
	if got := edgesOf(t, s, l); !slices.Equal(got, edges) {
		t.Fatalf("edges of %s, rooms %v:\n%v, want\n%v", show(l), s.Rooms, got, edges)
	}
	order := modelOrder(len(l), edges)
	if got, right := clocksOf(t, s, l), modelClocks(s, l, order); !slices.EqualFunc(got, right, slices.Equal) {
		t.Fatalf("clocks of %s:\n%v, want\n%v", show(l), got, right)
	}
	wantModelOrder(t, s, l, order, edges, seen)
	pairs := modelRaces(l, order)
	for _, most := range []int{0, 1, 2, len(pairs), len(pairs) + 1, api.MaxRaces} {
		if got := racesOf(t, s, l, most); !slices.Equal(got, pairs[:min(most, len(pairs))]) {
			t.Fatalf("at most %d races of %s:\n%v, want\n%v", most, show(l), got, pairs)
		}
	}
	for i := range l {
		if got := heldOf(t, s, l, i); !slices.Equal(got, modelHeld(s, l, i)) {
			t.Fatalf("at event %d of %s are held %v", i, show(l), got)
		}
	}
	for cell := range s.Cells {
		right := modelGuards(s, l, cell)
		if got := guardsOf(t, s, l, cell); !slices.Equal(got, right) {
			t.Fatalf("guards of %d in %s: %v, want %v", cell, show(l), got, right)
		}
		seen.guards += min(1, len(right))
	}
	seen.races += len(pairs)
	seen.events += len(l)
	for _, k := range edges {
		kinds := modelKinds(s, l, k.From, k.To)
		for _, kind := range kinds {
			seen.kinds[kind]++
		}
		seen.twice += len(kinds) - 1
	}
}

func wantModelOrder(t *testing.T, s api.System, l []api.Event, order [][]bool, edges []api.Edge, seen *tally) {
	t.Helper()
	for i := range l {
		rows, ties := modelWays(len(l), edges, i)
		for j := range l {
			if is := beforeOf(t, s, l, i, j); is != order[i][j] {
				t.Fatalf("Before(%d, %d) of %s is %v", i, j, show(l), is)
			}
			if got := wayOf(t, s, l, i, j); !slices.Equal(got, rows[j]) || (len(got) > 0) != order[i][j] {
				t.Fatalf("Way(%d, %d) of %s is %v, want %v", i, j, show(l), got, rows[j])
			}
			if ties[j] > 1 {
				seen.ties++
			}
		}
	}
}

func TestAgainstModel(t *testing.T) { // P14.1 to P14.5: lists by chance, held against the words
	c := chance(14)
	var seen tally
	for range 1500 {
		s := systemByChance(&c)
		wantModel(t, s, listByChance(&c, s, 4+c.below(26)), &seen)
	}
	for kind, n := range seen.kinds {
		if kind > 0 && n < 100 {
			t.Errorf("%d edges of kind %d", n, kind)
		}
	}
	if seen.twice < 100 || seen.ties < 100 || seen.races < 500 || seen.guards < 20 || seen.events < 5000 {
		t.Errorf("too little of something: %v", seen)
	}
}

// spoilEvent changes a field of an event.
func spoilEvent(c *chance, e *api.Event) {
	switch c.below(6) {
	case 0:
		e.Shut = !e.Shut
	case 1:
		e.Op = c.below(20) - 1
	default:
		field := []*int{&e.Who, &e.A, &e.Value}[c.below(3)]
		*field += []int{-1, 1, 2, -2, math.MinInt, math.MaxInt}[c.below(6)]
	}
}

func TestValidAgainstModel(t *testing.T) { // P14.1: lists with something changed, left out, put twice, turned round
	c := chance(41)
	var good, first, middle int
	for range 5000 {
		s := systemByChance(&c)
		l := listByChance(&c, s, 4+c.below(30))
		if len(l) < 2 {
			continue
		}
		at, other := c.below(len(l)), c.below(len(l))
		switch c.below(4) {
		case 0:
			l = slices.Delete(l, at, at+1)
		case 1:
			l[at], l[other] = l[other], l[at]
		case 2:
			l = slices.Insert(l, at, l[other])
		default:
			spoilEvent(&c, &l[at])
		}
		got, e := Valid(s, l)
		switch wrong := modelValid(s, l); {
		case wrong < 0:
			good++
			if got != 0 || e != api.OK {
				t.Fatalf("%s: %d, error %d", show(l), got, e)
			}
		case got != wrong || e != api.ErrTrace:
			t.Fatalf("%s: %d, error %d, want %d", show(l), got, e, wrong)
		case wrong == 0:
			first++
		default:
			middle++
		}
	}
	if good < 500 || first < 50 || middle < 500 {
		t.Errorf("%d may be, %d are wrong at once, %d later", good, first, middle)
	}
}
