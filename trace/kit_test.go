package trace

import (
	"fmt"
	"slices"
	"strconv"
	"strings"
	"testing"

	"quern/api"
)

// names are the operations' names, by their numbers.
var names = []string{"", "Set", "Sum", "Less", "Jump", "Send", "Take", "Close", "Lock", "Free", "Add", "Wait", "Read", "Write", "Start", "Work", "End"}

// events reads a list such as "0 Start 1 1; 1 Take 0 7 shut": who, Op, A, Value, Shut. What is not told is 0.
func events(text string) []api.Event {
	var list []api.Event
	for _, part := range strings.Split(text, ";") {
		words := strings.Fields(part)
		if len(words) == 0 {
			continue
		}
		var e api.Event
		if words[len(words)-1] == "shut" {
			e.Shut, words = true, words[:len(words)-1]
		}
		if len(words) < 2 || len(words) > 4 || slices.Index(names, words[1]) < 1 {
			panic("no event: " + part)
		}
		e.Op = slices.Index(names, words[1])
		words[1] = words[0]
		for at, field := range []*int{&e.Who, &e.A, &e.Value} {
			if at+1 < len(words) {
				n, err := strconv.Atoi(words[at+1])
				if err != nil {
					panic("no event: " + part)
				}
				*field = n
			}
		}
		list = append(list, e)
	}
	return list
}

// show tells events as they are read.
func show(list []api.Event) string {
	var parts []string
	for _, e := range list {
		name := fmt.Sprint("no operation ", e.Op)
		if e.Op > 0 && e.Op < len(names) {
			name = names[e.Op]
		}
		text := fmt.Sprint(e.Who, " ", name, " ", e.A, " ", e.Value)
		if e.Shut {
			text += " shut"
		}
		parts = append(parts, text)
	}
	return strings.Join(parts, "; ")
}

// plain is a system of two programs, with three channels of rooms 1, 2 and 3, two groups, three locks, three cells.
func plain() api.System {
	return api.System{Progs: [][]api.Inst{{}, {}}, Rooms: []int{1, 2, 3}, Groups: 2, Locks: 3, Cells: 3}
}

// edges reads a list such as "0>1 1>2".
func edges(text string) []api.Edge {
	var list []api.Edge
	for _, word := range strings.Fields(text) {
		var k api.Edge
		if _, err := fmt.Sscanf(word, "%d>%d", &k.From, &k.To); err != nil {
			panic("no edge: " + word)
		}
		list = append(list, k)
	}
	return list
}

// races reads a list such as "2-3 2-5".
func races(text string) []api.Race {
	var list []api.Race
	for _, word := range strings.Fields(text) {
		var r api.Race
		if _, err := fmt.Sscanf(word, "%d-%d", &r.First, &r.Second); err != nil {
			panic("no race: " + word)
		}
		list = append(list, r)
	}
	return list
}

// sure tells an answer that comes without an error.
func sure[T any](t testing.TB, what string, answer T, e api.Errno) T {
	t.Helper()
	if e != api.OK {
		t.Fatalf("%s: error %d", what, e)
	}
	return answer
}

// Each of these asks one call of a list that may be a trace, and wants no error.

func runnersOf(t testing.TB, s api.System, l []api.Event) int {
	t.Helper()
	n, e := Runners(s, l)
	return sure(t, "Runners", n, e)
}

func edgesOf(t testing.TB, s api.System, l []api.Event) []api.Edge {
	t.Helper()
	list, e := Edges(s, l)
	return sure(t, "Edges", list, e)
}

func clocksOf(t testing.TB, s api.System, l []api.Event) [][]int {
	t.Helper()
	list, e := Clocks(s, l)
	return sure(t, "Clocks", list, e)
}

func beforeOf(t testing.TB, s api.System, l []api.Event, i, j int) bool {
	t.Helper()
	is, e := Before(s, l, i, j)
	return sure(t, "Before", is, e)
}

func wayOf(t testing.TB, s api.System, l []api.Event, i, j int) []int {
	t.Helper()
	row, e := Way(s, l, i, j)
	return sure(t, "Way", row, e)
}

func racesOf(t testing.TB, s api.System, l []api.Event, most int) []api.Race {
	t.Helper()
	list, e := Races(s, l, most)
	return sure(t, "Races", list, e)
}

func heldOf(t testing.TB, s api.System, l []api.Event, i int) []int {
	t.Helper()
	list, e := Held(s, l, i)
	return sure(t, "Held", list, e)
}

func guardsOf(t testing.TB, s api.System, l []api.Event, cell int) []int {
	t.Helper()
	list, e := Guards(s, l, cell)
	return sure(t, "Guards", list, e)
}

// wantValid holds that a list may be a trace.
func wantValid(t testing.TB, what string, s api.System, l []api.Event) {
	t.Helper()
	if at, e := Valid(s, l); at != 0 || e != api.OK {
		t.Errorf("%s: Valid: %d, error %d", what, at, e)
	}
}

// wantRefused holds that all calls refuse a list with this error, and tell nothing beside it but Valid the number of the first wrong event.
func wantRefused(t testing.TB, what string, s api.System, l []api.Event, wrong int, why api.Errno) {
	t.Helper()
	if at, e := Valid(s, l); at != wrong || e != why {
		t.Errorf("%s: Valid: %d, error %d, want %d, error %d", what, at, e, wrong, why)
	}
	// Arguments that would be wrong come behind.
	for _, n := range []int{0, -1, len(l), 1 << 40} {
		wantSilence(t, what, s, l, n, why)
	}
}

// wantSilence holds that all calls but Valid answer this error, asked with the number n, and tell nothing beside it.
func wantSilence(t testing.TB, what string, s api.System, l []api.Event, n int, why api.Errno) {
	t.Helper()
	say := func(call string, zero bool, e api.Errno) {
		t.Helper()
		if e != why || !zero {
			t.Errorf("%s: %s with %d: error %d, want %d, or something beside it", what, call, n, e, why)
		}
	}
	runners, e := Runners(s, l)
	say("Runners", runners == 0, e)
	edges, e := Edges(s, l)
	say("Edges", len(edges) == 0, e)
	clocks, e := Clocks(s, l)
	say("Clocks", len(clocks) == 0, e)
	before, e := Before(s, l, n, n)
	say("Before", !before, e)
	way, e := Way(s, l, n, n)
	say("Way", len(way) == 0, e)
	races, e := Races(s, l, n)
	say("Races", len(races) == 0, e)
	held, e := Held(s, l, n)
	say("Held", len(held) == 0, e)
	guards, e := Guards(s, l, n)
	say("Guards", len(guards) == 0, e)
}

// chance tells numbers that look like chance, and are the same each time.
type chance uint64

func (c *chance) next() uint64 {
	*c += 0x9e3779b97f4a7c15
	x := uint64(*c)
	x = (x ^ x>>30) * 0xbf58476d1ce4e5b9
	x = (x ^ x>>27) * 0x94d049bb133111eb
	return x ^ x>>31
}

func (c *chance) below(n int) int {
	return int(c.next() % uint64(n))
}

// picks are so many.
func (c *chance) picks(n int) []int {
	list := make([]int, n)
	for i := range list {
		list[i] = int(c.next())
	}
	return list
}

// starts are events that start so many runners, all by runner 0, from the number first on.
func starts(first, many int) []api.Event {
	var list []api.Event
	for i := range many {
		list = append(list, api.Event{Op: api.OpStart, A: 1, Value: first + i})
	}
	return list
}

// times repeats an event.
func times(n int, e api.Event) []api.Event {
	return slices.Repeat([]api.Event{e}, n)
}
