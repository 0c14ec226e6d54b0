package sched

import (
	"fmt"
	"math"
	"slices"
	"strconv"
	"strings"
	"testing"

	"quern/api"
)

// names are the operations' names, by their numbers.
var names = []string{"", "Set", "Sum", "Less", "Jump", "Send", "Take", "Close", "Lock", "Free", "Add", "Wait", "Read", "Write", "Start", "Work", "End"}

// prog reads a program as the chapter writes it: "Start 1; Set 0 7". What is not told is 0.
func prog(text string) []api.Inst {
	var list []api.Inst
	for _, part := range strings.Split(text, ";") {
		words := strings.Fields(part)
		if len(words) == 0 {
			continue
		}
		i := api.Inst{Op: slices.Index(names, words[0])}
		if i.Op <= 0 || len(words) > 4 {
			panic("no instruction: " + part)
		}
		for at, field := range []*int{&i.A, &i.B, &i.C} {
			if at+1 < len(words) {
				n, err := strconv.Atoi(words[at+1])
				if err != nil {
					panic("no instruction: " + part)
				}
				*field = n
			}
		}
		list = append(list, i)
	}
	return list
}

// shared tells a system of these programs with three channels of rooms 1, 2 and 3, two groups, two locks, three cells.
func shared(progs ...string) api.System {
	s := api.System{Rooms: []int{1, 2, 3}, Groups: 2, Locks: 2, Cells: 3}
	for _, text := range progs {
		s.Progs = append(s.Progs, prog(text))
	}
	return s
}

// bare tells a system of these programs that share nothing.
func bare(progs ...string) api.System {
	return api.System{Progs: shared(progs...).Progs}
}

// show tells events in one line: who, Op, A, Value of each.
func show(events []api.Event) string {
	var parts []string
	for _, e := range events {
		name := fmt.Sprint("no operation ", e.Op)
		if e.Op > 0 && e.Op < len(names) {
			name = names[e.Op]
		}
		text := fmt.Sprint(e.Who, " ", name, " ", e.A, " ", e.Value)
		if e.Shut {
			text += " shut"
		}
		parts = append(parts, text)
	}
	return strings.Join(parts, "; ")
}

// played plays a system that may be.
func played(t testing.TB, what string, s api.System, picks ...int) api.Run {
	t.Helper()
	r, e := Play(s, picks)
	if e != api.OK {
		t.Fatalf("%s: Play: error %d", what, e)
	}
	return r
}

// wantEvents holds what happened in a run against a line of show.
func wantEvents(t testing.TB, what string, r api.Run, events string) {
	t.Helper()
	if got := show(r.Events); got != events {
		t.Errorf("%s: events\n%s\nwant\n%s", what, got, events)
	}
}

// wantEnd holds the end of a run, and how many steps it took.
func wantEnd(t testing.TB, what string, r api.Run, end int, fault api.Errno, steps int) {
	t.Helper()
	if r.End != end || r.Fault != fault || len(r.Events) != steps {
		t.Errorf("%s: end %d, fault %d, %d events, want %d, %d, %d", what, r.End, r.Fault, len(r.Events), end, fault, steps)
	}
}

func wantReady(t testing.TB, what string, s api.System, picks []int, right ...int) {
	t.Helper()
	got, e := Ready(s, picks)
	if e != api.OK || !slices.Equal(got, right) {
		t.Errorf("Ready, %s: %v, error %d, want %v", what, got, e, right)
	}
}

// wantSystem holds Valid's word on a system, and that Play and Ready refuse it with the same one and tell nothing.
func wantSystem(t testing.TB, what string, s api.System, ok bool) {
	t.Helper()
	if e := Valid(s); (e == api.OK) != ok || !ok && e != api.ErrSystem {
		t.Errorf("Valid, %s: error %d", what, e)
	}
	if ok {
		return
	}
	for _, picks := range [][]int{nil, {}, {0, 1}, {-1}} {
		if r, e := Play(s, picks); e != api.ErrSystem || !isZero(r) {
			t.Errorf("Play, %s: %v, error %d", what, r, e)
		}
		if list, e := Ready(s, picks); e != api.ErrSystem || len(list) > 0 {
			t.Errorf("Ready, %s: %v, error %d", what, list, e)
		}
	}
}

func isZero(r api.Run) bool {
	return r.End == 0 && r.Fault == 0 && len(r.Events) == 0 && r.Runners == 0 && len(r.Cells) == 0
}

func sameRun(a, b api.Run) bool {
	return a.End == b.End && a.Fault == b.Fault && a.Runners == b.Runners && slices.Equal(a.Events, b.Events) && slices.Equal(a.Cells, b.Cells)
}

// wantSame holds a run against the right one, and tells where the events part.
func wantSame(t testing.TB, what string, got, right api.Run) {
	t.Helper()
	if sameRun(got, right) {
		return
	}
	t.Errorf("%s: end %d, fault %d, %d events, %d runners, cells %v, want %d, %d, %d, %d, %v", what, got.End, got.Fault, len(got.Events),
		got.Runners, got.Cells, right.End, right.Fault, len(right.Events), right.Runners, right.Cells)
	for i := range min(len(got.Events), len(right.Events)) {
		if got.Events[i] != right.Events[i] {
			t.Errorf("%s: event %d is %v, want %v", what, i, got.Events[i], right.Events[i])
			return
		}
	}
}

// zeros are so many picks that are 0.
func zeros(n int) []int {
	return make([]int, n)
}

// chance tells numbers that look like chance, and are the same each time.
type chance uint64

func (c *chance) next() uint64 {
	*c += 0x9e3779b97f4a7c15
	x := uint64(*c)
	x = (x ^ x>>30) * 0xbf58476d1ce4e5b9
	x = (x ^ x>>27) * 0x94d049bb133111eb
	return x ^ x>>31
}

func (c *chance) below(n int) int {
	return int(c.next() % uint64(n))
}

// picks are so many, small ones and such of all sizes.
func (c *chance) picks(n int) []int {
	list := make([]int, n)
	for i := range list {
		switch c.below(8) {
		case 0:
			list[i] = int(c.next())
		case 1:
			list[i] = []int{math.MinInt, math.MaxInt, -1, math.MinInt + 1}[c.below(4)]
		default:
			list[i] = c.below(12)
		}
	}
	return list
}
